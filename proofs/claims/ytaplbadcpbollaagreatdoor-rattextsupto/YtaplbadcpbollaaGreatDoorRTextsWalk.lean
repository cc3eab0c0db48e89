/-
  The texts of rationals; RatTexts' walk.
-/
import Derived.Test.YtaplbadcpbollaaGreatDoorRRd3
import Derived.Test.YtaplbadcpbollaaGreatDoorZText
import Derived.Test.YtaplbadcpbollaaGreatDoorSetS
namespace Go.Proofs.YtaplbadcpbollaaGreatDoor
open Go Go.RowKit Nt
set_option linter.unusedSimpArgs false
set_option linter.unusedVariables false
set_option maxRecDepth 20000


/-- The text of a rational in lowest terms. -/
def txQ (n : Int) (d : Nat) : List UInt8 := if d = 1 then txZ n else txZ n ++ [47] ++ txZ ((d : Nat) : Int)
theorem h_zcmpR {A B : Int} {ka kb : Nat} (hk : ka ≤ 70368744177664) (hk' : kb ≤ 70368744177664) : ∀ w u v, Zv A ka u w → Zv B kb v w → Calls Tryz.prog 15 #[u, v] w (Gives (IS (.int .i64 (A - B).sign)) w) := h_zcmp hk hk'
theorem sgn_z {z : Int} (h : z = 0) : z.sign = 0 := by rw [h]; rfl
theorem sgn_nz {z : Int} (h : z ≠ 0) : z.sign ≠ 0 := fun e => h (Int.sign_eq_zero_iff_zero.1 e)
theorem g_rcmpR {A B : Int} {ka kb : Nat} (hk : ka ≤ 35184372088831) (hk' : kb ≤ 35184372088831) : ∀ w u v, Zv A ka u w → Zv B kb v w → Calls Tryz.prog 21 #[u, v] w (Gives (IS (.int .i64 (A - B).sign)) w) := by
  rintro w u v ⟨s, p, n, c, xs, rfl, h, rfl, hn⟩ ⟨t, q, m, d, ys, rfl, h', rfl, hm⟩
  refine (zrcmp_c w s t p q n c m d xs ys h h' (by omega) (by omega)).mono ?_
  rintro e w' ⟨rfl, hb⟩
  exact ⟨_, rfl, hb, rfl⟩

set_option maxHeartbeats 1000000 in
theorem qtext_w (w : World) (A : Int) (D k1 k2 : Nat) (u : Value) (h : Rv A (D : Int) k1 k2 u w) (hk1 : k1 ≤ 1048576) (hk2 : k2 ≤ 1048576) (hD : D ≠ 0) (n1 : Int) (d1 : Nat) (en : nR A D = n1) (ed : dR A D = d1) (ln : (digs n1.natAbs).length ≤ 1048576) (ld : (digs d1).length ≤ 1048576) (hmt : decide (0 < (D : Int).sign) = true) (hT : Tab w) (hd : d1 = 1) :
    Calls Tryz.prog 5 #[u] w (Gives (TWO (IS (str (txQ n1 d1))) (IS (.int .i64 0))) w) := by
  have dl1 : (digs (1 : Int).natAbs).length ≤ 1 := dl_small (by decide)
  have t1 : (txZ n1).length ≤ 33554434 := Nat.le_trans (txZ_len ln) (by omega)
  have t2 : (txZ ((d1 : Nat) : Int)).length ≤ 33554434 := Nat.le_trans (txZ_len (z := ((d1 : Nat) : Int)) (k := 1048576) ld) (by omega)
  have hc : ((((d1 : Nat) : Int)) - (1)).sign = 0 := sgn_z (by omega)
  have hx : txQ n1 d1 = txZ n1 := if_pos hd
  rw [hx]
  refine calls_sta (sl := [(0, (PR (Zv A k1) (Zv ((D : Int)) k2)))]) Tryz.func5 rfl Tryz.ntmps5 (by simp) (args_cons rfl (rv_has h) args_nil) ?_
  intro a0 S0
  replace S0 : Sta w 29 [] [(0, (PR (Zv A k1) (Zv ((D : Int)) k2))), (1000001, TT)] (fun _ => False) a0 w := S0.moreT 1000001 (tt_has hT)
  refine wp_stmt_seq [.new (.box 26 (PR (Zv A k1) (Zv ((D : Int)) k2))), .val (Is (str [])), .val (iV 0)] [.inl 0] [.inr 1] follows S0 rfl (by kernel_rfl) ?_ ?_
  · refine ⟨⟨⟨trivial, ?_⟩, ?_⟩, ?_⟩
    · exact owe_box rfl wA rfl (oS 0 0) rfl (fun ρ w h => box_rat (shp_pr shp_zv shp_zv) ρ _ _ w h)
    · exact mW wA ((opnd_const _).imp (fun _ _ h => h))
    · exact mC
  intro B1 a1 W1 (S1 : Sta w 29 [(1, (.box 26 (PR (Zv A k1) (Zv ((D : Int)) k2))))] [(1000001, TT)] _ _ _)
  refine wp_seq ?_
  refine wp_stmt_seq [.val (PR (Zv A k1) (Zv ((D : Int)) k2)), .val (RL1 (PR (Zv A k1) (Zv ((D : Int)) k2)) w.heap.size), kT, kF] [.inr 0] [.inl 3, .inr 0] follows S1 rfl (by kernel_rfl) ?_ ?_
  · refine ⟨⟨⟨⟨trivial, ?_⟩, ?_⟩, ?_⟩, ?_⟩
    · exact lod 0 wA (loads_of strct_rat (shp_pr shp_zv shp_zv))
    · exact owe_rl1 rfl wA rfl (oO 0 4) (shp_pr shp_zv shp_zv) rfl
    · exact cc1 wA (qO 1 5 rfl) (fresh_is _) (fun w u h1 => Gives.cast (g_maybe1 (by omega) w u (rl1_imp (pr_imp (fun _ _ h => h) (fun _ _ h => h)) _ _ h1)) (by rw [hmt]))
    · exact b_not wA (oO 2 6)
  intro B2 a2 W2 (S2 : Sta w 29 [(1, (.box 26 (PR (Zv A k1) (Zv ((D : Int)) k2))))] [(7, bF), (1000001, TT)] _ _ _)
  refine wp_cond_false (S2.bool 0 7 rfl) ?_
  refine wp_skip ?_
  refine thenN ?_
  refine wp_stmt_seq [.val (Part a2 1 0), .val (Zv A k1), .val (Part a2 1 2), .val (Zv ((D : Int)) k2), .val ((RN n1 d1) w.heap.size), .put (.inl 1) (.box 26 ((RN n1 d1) w.heap.size))] [.inr 0] [.inr 1] follows S2 rfl (by kernel_rfl) ?_ ?_
  · refine ⟨⟨⟨⟨⟨⟨trivial, ?_⟩, ?_⟩, ?_⟩, ?_⟩, ?_⟩, ?_⟩
    · exact owe_part rfl wA rfl (k := 0) rfl (by kernel_rfl) rfl (fun ρ w b h => part_rat0 ρ _ _ w b 0 h)
    · exact owe_pload rfl wA rfl (oO 0 8) (k := 0) rfl (by kernel_rfl) rfl (fun ρ w b u h1 h2 h3 => pload_num ρ _ _ w b u h1 h2 h3)
    · exact owe_part rfl wA rfl (k := 0) rfl (by kernel_rfl) rfl (fun ρ w b h => part_rat1 ρ _ _ w b 0 h)
    · exact owe_pload rfl wA rfl (oO 2 10) (k := 0) rfl (by kernel_rfl) rfl (fun ρ w b u h1 h2 h3 => pload_den ρ _ _ w b u h1 h2 h3)
    · exact cc2 wA (qO 1 9 rfl) (qO 3 11 rfl) (fresh_rn _ _) (fun w u v h1 h2 => Gives.cast (g_lowest hD (by omega) (by omega) w u v ((fun _ _ h => h) _ _ h1) ((fun _ _ h => h) _ _ h2)) (by rw [en, ed]))
    · exact owe_set rfl wA rfl (k := 0) rfl (by kernel_rfl) (oO 4 12) (stores_of strct_rat (shp_pr shp_zv shp_zv) (shp_pr shp_zn shp_zn)) rfl
  intro B3 a3 W3 (S3 : Sta w 29 [(1, (.box 26 ((RN n1 d1) w.heap.size)))] [(1000001, TT)] _ _ _)
  refine wp_seq ?_
  refine wp_stmt_seq [.val (Part a3 1 2), .val ((ZN (((d1 : Nat) : Int))) w.heap.size), .val ((ZN (1)) w.heap.size), .val (Is (.int .i64 ((((d1 : Nat) : Int)) - 1).sign)), kT] [.inr 0] [.inl 4, .inr 0] follows S3 rfl (by kernel_rfl) ?_ ?_
  · refine ⟨⟨⟨⟨⟨trivial, ?_⟩, ?_⟩, ?_⟩, ?_⟩, ?_⟩
    · exact owe_part rfl wA rfl (k := 0) rfl (by kernel_rfl) rfl (fun ρ w b h => part_rat1 ρ _ _ w b 0 h)
    · exact owe_pload rfl wA rfl (oO 0 13) (k := 0) rfl (by kernel_rfl) rfl (fun ρ w b u h1 h2 h3 => pload_den ρ _ _ w b u h1 h2 h3)
    · exact cc1 wA (opnd_const _) (fresh_zn _) (g_zof (1) (by omega) (by omega))
    · exact cc2 wA (qO 1 14 rfl) (qO 2 15 rfl) (fresh_is _) (fun w u v h1 h2 => h_zcmpR (by omega) (by omega) w u v ((zn_zv ld) _ _ h1) ((zn_zv dl1) _ _ h2))
    · exact b_eql_int_t wA (oO 3 16) (opnd_const _) (h := hc)
  intro B4 a4 W4 (S4 : Sta w 29 [(1, (.box 26 ((RN n1 d1) w.heap.size)))] [(17, bT), (1000001, TT)] _ _ _)
  refine wp_cond_true (S4.bool 0 17 rfl) ?_
  refine wp_stmt_seq [.val (Part a4 1 0), .val ((ZN (n1)) w.heap.size), .val (sV (txZ (n1))), .val (sV (txZ (n1))), .val (iV 0)] [] [.inl 3, .inl 4, .inr 1] follows S4 rfl (by kernel_rfl) ?_ ?_
  · refine ⟨⟨⟨⟨⟨trivial, ?_⟩, ?_⟩, ?_⟩, ?_⟩, ?_⟩
    · exact owe_part rfl wA rfl (k := 0) rfl (by kernel_rfl) rfl (fun ρ w b h => part_rat0 ρ _ _ w b 0 h)
    · exact owe_pload rfl wA rfl (oO 0 18) (k := 0) rfl (by kernel_rfl) rfl (fun ρ w b u h1 h2 h3 => pload_num ρ _ _ w b u h1 h2 h3)
    · exact owe_callh1 rfl wA rfl (opnd_tp ((oO 1 19).imp (zn_zv ln)) (oS 1 1000001)) (fresh_is _) rfl (fun args w => by go_simp) (fun w u h => h_ztext (by omega) w u (tp_out h).2 (tp_out h).1.now)
    · exact mO 2 20
    · exact mC
  intro B5 a5 W5 (S5 : Sta w 29 [] [(2, sV (txZ (n1))), (3, iV 0), (1000001, TT)] _ _ _)
  refine wp_ret ?_
  refine thenR ?_
  exact end_two S5 rfl (res_tmp S5 0 2 rfl) (res_tmp S5 1 3 rfl)

set_option maxHeartbeats 1000000 in
theorem qrtext_w (w : World) (A : Int) (D k1 k2 : Nat) (u : Value) (h : Rv A (D : Int) k1 k2 u w) (hk1 : k1 ≤ 1048576) (hk2 : k2 ≤ 1048576) (hD : D ≠ 0) (n1 : Int) (d1 : Nat) (en : nR A D = n1) (ed : dR A D = d1) (ln : (digs n1.natAbs).length ≤ 1048576) (ld : (digs d1).length ≤ 1048576) (hd : d1 = 1) :
    Calls Tryz.prog 7 #[u] w (Gives (IS (str (txQ n1 d1))) w) := by
  have dl1 : (digs (1 : Int).natAbs).length ≤ 1 := dl_small (by decide)
  have t1 : (txZ n1).length ≤ 33554434 := Nat.le_trans (txZ_len ln) (by omega)
  have t2 : (txZ ((d1 : Nat) : Int)).length ≤ 33554434 := Nat.le_trans (txZ_len (z := ((d1 : Nat) : Int)) (k := 1048576) ld) (by omega)
  have hc : ((((d1 : Nat) : Int)) - (1)).sign = 0 := sgn_z (by omega)
  have hx : txQ n1 d1 = txZ n1 := if_pos hd
  rw [hx]
  refine calls_sta (sl := [(0, (PR (Zv A k1) (Zv ((D : Int)) k2)))]) Tryz.func7 rfl Tryz.ntmps7 (by simp) (args_cons rfl (rv_has h) args_nil) ?_
  intro a0 S0
  refine wp_stmt_seq [.new (.box 26 (PR (Zv A k1) (Zv ((D : Int)) k2))), .val (Is (str []))] [.inl 0] [] follows S0 rfl (by kernel_rfl) ?_ ?_
  · refine ⟨⟨trivial, ?_⟩, ?_⟩
    · exact owe_box rfl wA rfl (oS 0 0) rfl (fun ρ w h => box_rat (shp_pr shp_zv shp_zv) ρ _ _ w h)
    · exact mW wA ((opnd_const _).imp (fun _ _ h => h))
  intro B1 a1 W1 (S1 : Sta w 25 [(1, (.box 26 (PR (Zv A k1) (Zv ((D : Int)) k2))))] [] _ _ _)
  refine wp_stmt_seq [.val (Part a1 1 0), .val (Zv A k1), .val (Part a1 1 2), .val (Zv ((D : Int)) k2), .val ((RN n1 d1) w.heap.size), .new (.box 26 zR), .put (.inr 5) (.box 26 ((RN n1 d1) w.heap.size))] [.inl 5] [] follows S1 rfl (by kernel_rfl) ?_ ?_
  · repeat' refine And.intro ?_ ?_
    · trivial
    · exact owe_part rfl wA rfl (k := 0) rfl (by kernel_rfl) rfl (fun ρ w b h => part_rat0 ρ _ _ w b 0 h)
    · exact owe_pload rfl wA rfl (oO 0 5) (k := 0) rfl (by kernel_rfl) rfl (fun ρ w b u h1 h2 h3 => pload_num ρ _ _ w b u h1 h2 h3)
    · exact owe_part rfl wA rfl (k := 0) rfl (by kernel_rfl) rfl (fun ρ w b h => part_rat1 ρ _ _ w b 0 h)
    · exact owe_pload rfl wA rfl (oO 2 7) (k := 0) rfl (by kernel_rfl) rfl (fun ρ w b u h1 h2 h3 => pload_den ρ _ _ w b u h1 h2 h3)
    · exact cc2 wA (qO 1 6 rfl) (qO 3 8 rfl) (fresh_rn _ _) (fun w u v h1 h2 => Gives.cast (g_rmake hD (by omega) (by omega) w u v ((fun _ _ h => h) _ _ h1) ((fun _ _ h => h) _ _ h2)) (by rw [en, ed]))
    · exact owe_new rfl wA rfl rfl (fun ρ w => alloc_rat ρ _ w)
    · exact owe_put 5 rfl wA rfl (by kernel_rfl) rfl (oO 4 9) (stores_of strct_rat shp_r0 (shp_pr shp_zn shp_zn)) rfl
  intro B2 a2 W2 (S2 : Sta w 25 [(3, (.box 26 ((RN n1 d1) w.heap.size)))] [] _ _ _)
  refine wp_stmt_seq [.val (Part a2 3 0), .val ((ZN (n1)) w.heap.size), .val (sV (txZ (n1))), .val (sV (txZ (n1)))] [.inr 0] [.inl 3] follows S2 rfl (by kernel_rfl) ?_ ?_
  · refine ⟨⟨⟨⟨trivial, ?_⟩, ?_⟩, ?_⟩, ?_⟩
    · exact owe_part rfl wA rfl (k := 0) rfl (by kernel_rfl) rfl (fun ρ w b h => part_rat0 ρ _ _ w b 0 h)
    · exact owe_pload rfl wA rfl (oO 0 10) (k := 0) rfl (by kernel_rfl) rfl (fun ρ w b u h1 h2 h3 => pload_num ρ _ _ w b u h1 h2 h3)
    · exact ch1 wA ((qO 1 11 rfl).imp (zn_zv ln)) (fresh_is _) (fun w u h => h_rztext (by omega) w u h.now)
    · exact mO 2 12
  intro B3 a3 W3 (S3 : Sta w 25 [(3, (.box 26 ((RN n1 d1) w.heap.size)))] [(4, sV (txZ (n1)))] _ _ _)
  refine wp_seq ?_
  refine wp_stmt_seq [.val (Part a3 3 2), .val ((ZN (((d1 : Nat) : Int))) w.heap.size), .val ((ZN (1)) w.heap.size), .val (Is (.int .i64 ((((d1 : Nat) : Int)) - 1).sign)), kF] [.inr 0] [.inl 4, .inr 0] follows S3 rfl (by kernel_rfl) ?_ ?_
  · refine ⟨⟨⟨⟨⟨trivial, ?_⟩, ?_⟩, ?_⟩, ?_⟩, ?_⟩
    · exact owe_part rfl wA rfl (k := 0) rfl (by kernel_rfl) rfl (fun ρ w b h => part_rat1 ρ _ _ w b 0 h)
    · exact owe_pload rfl wA rfl (oO 0 13) (k := 0) rfl (by kernel_rfl) rfl (fun ρ w b u h1 h2 h3 => pload_den ρ _ _ w b u h1 h2 h3)
    · exact owe_call0 rfl wA rfl  (fresh_zn _) rfl (fun args w => by go_simp) g_rone
    · exact cc2 wA (qO 1 14 rfl) (qO 2 15 rfl) (fresh_is _) (fun w u v h1 h2 => g_rcmpR (by omega) (by omega) w u v ((zn_zv ld) _ _ h1) ((zn_zv dl1) _ _ h2))
    · exact b_neq_int_f wA (oO 3 16) (opnd_const _) (h := hc)
  intro B4 a4 W4 (S4 : Sta w 25 [(3, (.box 26 ((RN n1 d1) w.heap.size)))] [(17, bF), (4, sV (txZ (n1)))] _ _ _)
  refine wp_cond_false (S4.bool 0 17 rfl) ?_
  refine wp_skip ?_
  refine thenN ?_
  refine wp_stmt_seq [.val (sV (txZ (n1))), .val (sV (txZ (n1)))] [] [.inl 1] follows S4 rfl (by kernel_rfl) ?_ ?_
  · refine ⟨⟨trivial, ?_⟩, ?_⟩
    · exact mS 1 4
    · exact mO 0 24
  intro B5 a5 W5 (S5 : Sta w 25 [] [(2, sV (txZ (n1)))] _ _ _)
  refine wp_ret ?_
  exact end_one S5 rfl (res_tmp S5 0 2 rfl)

set_option maxHeartbeats 1000000 in
theorem qtext_f (w : World) (A : Int) (D k1 k2 : Nat) (u : Value) (h : Rv A (D : Int) k1 k2 u w) (hk1 : k1 ≤ 1048576) (hk2 : k2 ≤ 1048576) (hD : D ≠ 0) (n1 : Int) (d1 : Nat) (en : nR A D = n1) (ed : dR A D = d1) (ln : (digs n1.natAbs).length ≤ 1048576) (ld : (digs d1).length ≤ 1048576) (hmt : decide (0 < (D : Int).sign) = true) (hT : Tab w) (hd : d1 ≠ 1) :
    Calls Tryz.prog 5 #[u] w (Gives (TWO (IS (str (txQ n1 d1))) (IS (.int .i64 0))) w) := by
  have dl1 : (digs (1 : Int).natAbs).length ≤ 1 := dl_small (by decide)
  have t1 : (txZ n1).length ≤ 33554434 := Nat.le_trans (txZ_len ln) (by omega)
  have t2 : (txZ ((d1 : Nat) : Int)).length ≤ 33554434 := Nat.le_trans (txZ_len (z := ((d1 : Nat) : Int)) (k := 1048576) ld) (by omega)
  have hc : ((((d1 : Nat) : Int)) - (1)).sign ≠ 0 := sgn_nz (by omega)
  have hx : txQ n1 d1 = txZ n1 ++ [47] ++ txZ ((d1 : Nat) : Int) := if_neg hd
  rw [hx]
  refine calls_sta (sl := [(0, (PR (Zv A k1) (Zv ((D : Int)) k2)))]) Tryz.func5 rfl Tryz.ntmps5 (by simp) (args_cons rfl (rv_has h) args_nil) ?_
  intro a0 S0
  replace S0 : Sta w 29 [] [(0, (PR (Zv A k1) (Zv ((D : Int)) k2))), (1000001, TT)] (fun _ => False) a0 w := S0.moreT 1000001 (tt_has hT)
  refine wp_stmt_seq [.new (.box 26 (PR (Zv A k1) (Zv ((D : Int)) k2))), .val (Is (str [])), .val (iV 0)] [.inl 0] [.inr 1] follows S0 rfl (by kernel_rfl) ?_ ?_
  · refine ⟨⟨⟨trivial, ?_⟩, ?_⟩, ?_⟩
    · exact owe_box rfl wA rfl (oS 0 0) rfl (fun ρ w h => box_rat (shp_pr shp_zv shp_zv) ρ _ _ w h)
    · exact mW wA ((opnd_const _).imp (fun _ _ h => h))
    · exact mC
  intro B1 a1 W1 (S1 : Sta w 29 [(1, (.box 26 (PR (Zv A k1) (Zv ((D : Int)) k2))))] [(1000001, TT)] _ _ _)
  refine wp_seq ?_
  refine wp_stmt_seq [.val (PR (Zv A k1) (Zv ((D : Int)) k2)), .val (RL1 (PR (Zv A k1) (Zv ((D : Int)) k2)) w.heap.size), kT, kF] [.inr 0] [.inl 3, .inr 0] follows S1 rfl (by kernel_rfl) ?_ ?_
  · refine ⟨⟨⟨⟨trivial, ?_⟩, ?_⟩, ?_⟩, ?_⟩
    · exact lod 0 wA (loads_of strct_rat (shp_pr shp_zv shp_zv))
    · exact owe_rl1 rfl wA rfl (oO 0 4) (shp_pr shp_zv shp_zv) rfl
    · exact cc1 wA (qO 1 5 rfl) (fresh_is _) (fun w u h1 => Gives.cast (g_maybe1 (by omega) w u (rl1_imp (pr_imp (fun _ _ h => h) (fun _ _ h => h)) _ _ h1)) (by rw [hmt]))
    · exact b_not wA (oO 2 6)
  intro B2 a2 W2 (S2 : Sta w 29 [(1, (.box 26 (PR (Zv A k1) (Zv ((D : Int)) k2))))] [(7, bF), (1000001, TT)] _ _ _)
  refine wp_cond_false (S2.bool 0 7 rfl) ?_
  refine wp_skip ?_
  refine thenN ?_
  refine wp_stmt_seq [.val (Part a2 1 0), .val (Zv A k1), .val (Part a2 1 2), .val (Zv ((D : Int)) k2), .val ((RN n1 d1) w.heap.size), .put (.inl 1) (.box 26 ((RN n1 d1) w.heap.size))] [.inr 0] [.inr 1] follows S2 rfl (by kernel_rfl) ?_ ?_
  · refine ⟨⟨⟨⟨⟨⟨trivial, ?_⟩, ?_⟩, ?_⟩, ?_⟩, ?_⟩, ?_⟩
    · exact owe_part rfl wA rfl (k := 0) rfl (by kernel_rfl) rfl (fun ρ w b h => part_rat0 ρ _ _ w b 0 h)
    · exact owe_pload rfl wA rfl (oO 0 8) (k := 0) rfl (by kernel_rfl) rfl (fun ρ w b u h1 h2 h3 => pload_num ρ _ _ w b u h1 h2 h3)
    · exact owe_part rfl wA rfl (k := 0) rfl (by kernel_rfl) rfl (fun ρ w b h => part_rat1 ρ _ _ w b 0 h)
    · exact owe_pload rfl wA rfl (oO 2 10) (k := 0) rfl (by kernel_rfl) rfl (fun ρ w b u h1 h2 h3 => pload_den ρ _ _ w b u h1 h2 h3)
    · exact cc2 wA (qO 1 9 rfl) (qO 3 11 rfl) (fresh_rn _ _) (fun w u v h1 h2 => Gives.cast (g_lowest hD (by omega) (by omega) w u v ((fun _ _ h => h) _ _ h1) ((fun _ _ h => h) _ _ h2)) (by rw [en, ed]))
    · exact owe_set rfl wA rfl (k := 0) rfl (by kernel_rfl) (oO 4 12) (stores_of strct_rat (shp_pr shp_zv shp_zv) (shp_pr shp_zn shp_zn)) rfl
  intro B3 a3 W3 (S3 : Sta w 29 [(1, (.box 26 ((RN n1 d1) w.heap.size)))] [(1000001, TT)] _ _ _)
  refine wp_seq ?_
  refine wp_stmt_seq [.val (Part a3 1 2), .val ((ZN (((d1 : Nat) : Int))) w.heap.size), .val ((ZN (1)) w.heap.size), .val (Is (.int .i64 ((((d1 : Nat) : Int)) - 1).sign)), kF] [.inr 0] [.inl 4, .inr 0] follows S3 rfl (by kernel_rfl) ?_ ?_
  · refine ⟨⟨⟨⟨⟨trivial, ?_⟩, ?_⟩, ?_⟩, ?_⟩, ?_⟩
    · exact owe_part rfl wA rfl (k := 0) rfl (by kernel_rfl) rfl (fun ρ w b h => part_rat1 ρ _ _ w b 0 h)
    · exact owe_pload rfl wA rfl (oO 0 13) (k := 0) rfl (by kernel_rfl) rfl (fun ρ w b u h1 h2 h3 => pload_den ρ _ _ w b u h1 h2 h3)
    · exact cc1 wA (opnd_const _) (fresh_zn _) (g_zof (1) (by omega) (by omega))
    · exact cc2 wA (qO 1 14 rfl) (qO 2 15 rfl) (fresh_is _) (fun w u v h1 h2 => h_zcmpR (by omega) (by omega) w u v ((zn_zv ld) _ _ h1) ((zn_zv dl1) _ _ h2))
    · exact b_eql_int_f wA (oO 3 16) (opnd_const _) (h := hc)
  intro B4 a4 W4 (S4 : Sta w 29 [(1, (.box 26 ((RN n1 d1) w.heap.size)))] [(17, bF), (1000001, TT)] _ _ _)
  refine wp_cond_false (S4.bool 0 17 rfl) ?_
  refine wp_skip ?_
  refine thenN ?_
  refine wp_stmt_seq [.val (Part a4 1 0), .val ((ZN (n1)) w.heap.size), .val (sV (txZ (n1))), .val (sV (txZ n1 ++ [47])), .val (Part a4 1 2), .val ((ZN (((d1 : Nat) : Int))) w.heap.size), .val (Is (str (txZ (((d1 : Nat) : Int))))), .val (Is (str (txZ n1 ++ [47] ++ txZ ((d1 : Nat) : Int)))), .val (Is (str (txZ n1 ++ [47] ++ txZ ((d1 : Nat) : Int)))), .val (iV 0)] [] [.inl 8, .inl 9, .inr 1] follows S4 rfl (by kernel_rfl) ?_ ?_
  · repeat' refine And.intro ?_ ?_
    · trivial
    · exact owe_part rfl wA rfl (k := 0) rfl (by kernel_rfl) rfl (fun ρ w b h => part_rat0 ρ _ _ w b 0 h)
    · exact owe_pload rfl wA rfl (oO 0 21) (k := 0) rfl (by kernel_rfl) rfl (fun ρ w b u h1 h2 h3 => pload_num ρ _ _ w b u h1 h2 h3)
    · exact owe_callh1 rfl wA rfl (opnd_tp ((oO 1 22).imp (zn_zv ln)) (oS 1 1000001)) (fresh_is _) rfl (fun args w => by go_simp) (fun w u h => h_ztext (by omega) w u (tp_out h).2 (tp_out h).1.now)
    · exact owe_bin rfl wA rfl (oO 2 23) ((opnd_const _).imp (fun _ _ h => h)) rfl (fun ρ w h1 h2 => by exact run_cat ρ _ _ _ w _ _ (by simp only [List.length_cons, List.length_nil]; omega) h1 h2)
    · exact owe_part rfl wA rfl (k := 0) rfl (by kernel_rfl) rfl (fun ρ w b h => part_rat1 ρ _ _ w b 0 h)
    · exact owe_pload rfl wA rfl (oO 4 25) (k := 0) rfl (by kernel_rfl) rfl (fun ρ w b u h1 h2 h3 => pload_den ρ _ _ w b u h1 h2 h3)
    · exact owe_callh1 rfl wA rfl (opnd_tp ((oO 5 26).imp (zn_zv ld)) (oS 1 1000001)) (fresh_is _) rfl (fun args w => by go_simp) (fun w u h => h_ztext (by omega) w u (tp_out h).2 (tp_out h).1.now)
    · exact owe_bin rfl wA rfl (oO 3 24) (oO 6 27) rfl (fun ρ w h1 h2 => by exact run_cat ρ _ _ _ w _ _ (by simp only [List.length_append, List.length_cons, List.length_nil]; omega) h1 h2)
    · exact mO 7 28
    · exact mC
  intro B5 a5 W5 (S5 : Sta w 29 [] [(2, Is (str (txZ n1 ++ [47] ++ txZ ((d1 : Nat) : Int)))), (3, iV 0), (1000001, TT)] _ _ _)
  refine wp_ret ?_
  exact end_two S5 rfl (res_tmp S5 0 2 rfl) (res_tmp S5 1 3 rfl)

set_option maxHeartbeats 1000000 in
theorem qrtext_f (w : World) (A : Int) (D k1 k2 : Nat) (u : Value) (h : Rv A (D : Int) k1 k2 u w) (hk1 : k1 ≤ 1048576) (hk2 : k2 ≤ 1048576) (hD : D ≠ 0) (n1 : Int) (d1 : Nat) (en : nR A D = n1) (ed : dR A D = d1) (ln : (digs n1.natAbs).length ≤ 1048576) (ld : (digs d1).length ≤ 1048576) (hd : d1 ≠ 1) :
    Calls Tryz.prog 7 #[u] w (Gives (IS (str (txQ n1 d1))) w) := by
  have dl1 : (digs (1 : Int).natAbs).length ≤ 1 := dl_small (by decide)
  have t1 : (txZ n1).length ≤ 33554434 := Nat.le_trans (txZ_len ln) (by omega)
  have t2 : (txZ ((d1 : Nat) : Int)).length ≤ 33554434 := Nat.le_trans (txZ_len (z := ((d1 : Nat) : Int)) (k := 1048576) ld) (by omega)
  have hc : ((((d1 : Nat) : Int)) - (1)).sign ≠ 0 := sgn_nz (by omega)
  have hx : txQ n1 d1 = txZ n1 ++ [47] ++ txZ ((d1 : Nat) : Int) := if_neg hd
  rw [hx]
  refine calls_sta (sl := [(0, (PR (Zv A k1) (Zv ((D : Int)) k2)))]) Tryz.func7 rfl Tryz.ntmps7 (by simp) (args_cons rfl (rv_has h) args_nil) ?_
  intro a0 S0
  refine wp_stmt_seq [.new (.box 26 (PR (Zv A k1) (Zv ((D : Int)) k2))), .val (Is (str []))] [.inl 0] [] follows S0 rfl (by kernel_rfl) ?_ ?_
  · refine ⟨⟨trivial, ?_⟩, ?_⟩
    · exact owe_box rfl wA rfl (oS 0 0) rfl (fun ρ w h => box_rat (shp_pr shp_zv shp_zv) ρ _ _ w h)
    · exact mW wA ((opnd_const _).imp (fun _ _ h => h))
  intro B1 a1 W1 (S1 : Sta w 25 [(1, (.box 26 (PR (Zv A k1) (Zv ((D : Int)) k2))))] [] _ _ _)
  refine wp_stmt_seq [.val (Part a1 1 0), .val (Zv A k1), .val (Part a1 1 2), .val (Zv ((D : Int)) k2), .val ((RN n1 d1) w.heap.size), .new (.box 26 zR), .put (.inr 5) (.box 26 ((RN n1 d1) w.heap.size))] [.inl 5] [] follows S1 rfl (by kernel_rfl) ?_ ?_
  · repeat' refine And.intro ?_ ?_
    · trivial
    · exact owe_part rfl wA rfl (k := 0) rfl (by kernel_rfl) rfl (fun ρ w b h => part_rat0 ρ _ _ w b 0 h)
    · exact owe_pload rfl wA rfl (oO 0 5) (k := 0) rfl (by kernel_rfl) rfl (fun ρ w b u h1 h2 h3 => pload_num ρ _ _ w b u h1 h2 h3)
    · exact owe_part rfl wA rfl (k := 0) rfl (by kernel_rfl) rfl (fun ρ w b h => part_rat1 ρ _ _ w b 0 h)
    · exact owe_pload rfl wA rfl (oO 2 7) (k := 0) rfl (by kernel_rfl) rfl (fun ρ w b u h1 h2 h3 => pload_den ρ _ _ w b u h1 h2 h3)
    · exact cc2 wA (qO 1 6 rfl) (qO 3 8 rfl) (fresh_rn _ _) (fun w u v h1 h2 => Gives.cast (g_rmake hD (by omega) (by omega) w u v ((fun _ _ h => h) _ _ h1) ((fun _ _ h => h) _ _ h2)) (by rw [en, ed]))
    · exact owe_new rfl wA rfl rfl (fun ρ w => alloc_rat ρ _ w)
    · exact owe_put 5 rfl wA rfl (by kernel_rfl) rfl (oO 4 9) (stores_of strct_rat shp_r0 (shp_pr shp_zn shp_zn)) rfl
  intro B2 a2 W2 (S2 : Sta w 25 [(3, (.box 26 ((RN n1 d1) w.heap.size)))] [] _ _ _)
  refine wp_stmt_seq [.val (Part a2 3 0), .val ((ZN (n1)) w.heap.size), .val (sV (txZ (n1))), .val (sV (txZ (n1)))] [.inr 0] [.inl 3] follows S2 rfl (by kernel_rfl) ?_ ?_
  · refine ⟨⟨⟨⟨trivial, ?_⟩, ?_⟩, ?_⟩, ?_⟩
    · exact owe_part rfl wA rfl (k := 0) rfl (by kernel_rfl) rfl (fun ρ w b h => part_rat0 ρ _ _ w b 0 h)
    · exact owe_pload rfl wA rfl (oO 0 10) (k := 0) rfl (by kernel_rfl) rfl (fun ρ w b u h1 h2 h3 => pload_num ρ _ _ w b u h1 h2 h3)
    · exact ch1 wA ((qO 1 11 rfl).imp (zn_zv ln)) (fresh_is _) (fun w u h => h_rztext (by omega) w u h.now)
    · exact mO 2 12
  intro B3 a3 W3 (S3 : Sta w 25 [(3, (.box 26 ((RN n1 d1) w.heap.size)))] [(4, sV (txZ (n1)))] _ _ _)
  refine wp_seq ?_
  refine wp_stmt_seq [.val (Part a3 3 2), .val ((ZN (((d1 : Nat) : Int))) w.heap.size), .val ((ZN (1)) w.heap.size), .val (Is (.int .i64 ((((d1 : Nat) : Int)) - 1).sign)), kT] [.inr 0] [.inl 4, .inr 0] follows S3 rfl (by kernel_rfl) ?_ ?_
  · refine ⟨⟨⟨⟨⟨trivial, ?_⟩, ?_⟩, ?_⟩, ?_⟩, ?_⟩
    · exact owe_part rfl wA rfl (k := 0) rfl (by kernel_rfl) rfl (fun ρ w b h => part_rat1 ρ _ _ w b 0 h)
    · exact owe_pload rfl wA rfl (oO 0 13) (k := 0) rfl (by kernel_rfl) rfl (fun ρ w b u h1 h2 h3 => pload_den ρ _ _ w b u h1 h2 h3)
    · exact owe_call0 rfl wA rfl  (fresh_zn _) rfl (fun args w => by go_simp) g_rone
    · exact cc2 wA (qO 1 14 rfl) (qO 2 15 rfl) (fresh_is _) (fun w u v h1 h2 => g_rcmpR (by omega) (by omega) w u v ((zn_zv ld) _ _ h1) ((zn_zv dl1) _ _ h2))
    · exact b_neq_int_t wA (oO 3 16) (opnd_const _) (h := hc)
  intro B4 a4 W4 (S4 : Sta w 25 [(3, (.box 26 ((RN n1 d1) w.heap.size)))] [(17, bT), (4, sV (txZ (n1)))] _ _ _)
  refine wp_cond_true (S4.bool 0 17 rfl) ?_
  refine wp_stmt [.val (sV (txZ (n1))), .val (sV (txZ n1 ++ [47])), .val (Part a4 3 2), .val ((ZN (((d1 : Nat) : Int))) w.heap.size), .val (Is (str (txZ (((d1 : Nat) : Int))))), .val (Is (str (txZ n1 ++ [47] ++ txZ ((d1 : Nat) : Int)))), .val (Is (str (txZ n1 ++ [47] ++ txZ ((d1 : Nat) : Int))))] [] [.inl 6] follows S4 rfl (by kernel_rfl) ?_ ?_
  · repeat' refine And.intro ?_ ?_
    · trivial
    · exact mS 1 4
    · exact owe_bin rfl wA rfl (oO 0 18) ((opnd_const _).imp (fun _ _ h => h)) rfl (fun ρ w h1 h2 => by exact run_cat ρ _ _ _ w _ _ (by simp only [List.length_cons, List.length_nil]; omega) h1 h2)
    · exact owe_part rfl wA rfl (k := 0) rfl (by kernel_rfl) rfl (fun ρ w b h => part_rat1 ρ _ _ w b 0 h)
    · exact owe_pload rfl wA rfl (oO 2 20) (k := 0) rfl (by kernel_rfl) rfl (fun ρ w b u h1 h2 h3 => pload_den ρ _ _ w b u h1 h2 h3)
    · exact ch1 wA ((qO 3 21 rfl).imp (zn_zv ld)) (fresh_is _) (fun w u h => h_rztext (by omega) w u h.now)
    · exact owe_bin rfl wA rfl (oO 1 19) (oO 4 22) rfl (fun ρ w h1 h2 => by exact run_cat ρ _ _ _ w _ _ (by simp only [List.length_append, List.length_cons, List.length_nil]; omega) h1 h2)
    · exact mO 5 23
  intro B5 a5 W5 (S5 : Sta w 25 [] [(4, Is (str (txZ n1 ++ [47] ++ txZ ((d1 : Nat) : Int))))] _ _ _)
  refine thenN ?_
  refine wp_stmt_seq [.val (Is (str (txZ n1 ++ [47] ++ txZ ((d1 : Nat) : Int)))), .val (Is (str (txZ n1 ++ [47] ++ txZ ((d1 : Nat) : Int))))] [] [.inl 1] follows S5 rfl (by kernel_rfl) ?_ ?_
  · refine ⟨⟨trivial, ?_⟩, ?_⟩
    · exact mS 0 4
    · exact mO 0 24
  intro B6 a6 W6 (S6 : Sta w 25 [] [(2, Is (str (txZ n1 ++ [47] ++ txZ ((d1 : Nat) : Int))))] _ _ _)
  refine wp_ret ?_
  exact end_one S6 rfl (res_tmp S6 0 2 rfl)

set_option maxHeartbeats 400000 in
theorem qtext_b (w : World) (A D : Int) (k1 k2 : Nat) (u : Value) (h : Rv A D k1 k2 u w) (hk1 : k1 ≤ 1048576) (hk2 : k2 ≤ 1048576) (hmf : decide (0 < D.sign) = false) :
    Calls Tryz.prog 5 #[u] w (Gives (TWO (IS (str [])) (IS (.int .i64 30))) w) := by
  refine calls_sta (sl := [(0, (PR (Zv A k1) (Zv D k2)))]) Tryz.func5 rfl Tryz.ntmps5 (by simp) (args_cons rfl (rv_has h) args_nil) ?_
  intro a0 S0
  refine wp_stmt_seq [.new (.box 26 (PR (Zv A k1) (Zv D k2))), .val (Is (str [])), .val (iV 0)] [.inl 0] [] follows S0 rfl (by kernel_rfl) ?_ ?_
  · refine ⟨⟨⟨trivial, ?_⟩, ?_⟩, ?_⟩
    · exact owe_box rfl wA rfl (oS 0 0) rfl (fun ρ w h => box_rat (shp_pr shp_zv shp_zv) ρ _ _ w h)
    · exact mW wA ((opnd_const _).imp (fun _ _ h => h))
    · exact mC
  intro B1 a1 W1 (S1 : Sta w 29 [(1, (.box 26 (PR (Zv A k1) (Zv D k2))))] [] _ _ _)
  refine wp_seq ?_
  refine wp_stmt_seq [.val (PR (Zv A k1) (Zv D k2)), .val (RL1 (PR (Zv A k1) (Zv D k2)) w.heap.size), kF, kT] [.inr 0] [.inl 3] follows S1 rfl (by kernel_rfl) ?_ ?_
  · refine ⟨⟨⟨⟨trivial, ?_⟩, ?_⟩, ?_⟩, ?_⟩
    · exact lod 0 wA (loads_of strct_rat (shp_pr shp_zv shp_zv))
    · exact owe_rl1 rfl wA rfl (oO 0 4) (shp_pr shp_zv shp_zv) rfl
    · exact cc1 wA (qO 1 5 rfl) (fresh_is _) (fun w u h1 => Gives.cast (g_maybe1 (by omega) w u (rl1_imp (pr_imp (fun _ _ h => h) (fun _ _ h => h)) _ _ h1)) (by rw [hmf]))
    · exact b_not wA (oO 2 6)
  intro B2 a2 W2 (S2 : Sta w 29 [(1, (.box 26 (PR (Zv A k1) (Zv D k2))))] [(7, bT)] _ _ _)
  refine wp_cond_true (S2.bool 0 7 rfl) ?_
  refine wp_stmt_seq [.val (Is (str [])), .val (iV 30)] [] [.inl 0, .inl 1] follows S2 rfl (by kernel_rfl) ?_ ?_
  · refine ⟨⟨trivial, ?_⟩, ?_⟩
    · exact mW wA ((opnd_const _).imp (fun _ _ h => h))
    · exact mC
  intro B3 a3 W3 (S3 : Sta w 29 [] [(2, Is (str [])), (3, iV 30)] _ _ _)
  refine wp_ret ?_
  refine thenR ?_
  exact end_two S3 rfl (res_tmp S3 0 2 rfl) (res_tmp S3 1 3 rfl)


theorem low_dl {A : Int} {D k1 k2 : Nat} (h1 : (digs A.natAbs).length ≤ k1) (h2 : (digs D).length ≤ k2) : (digs (nR A D).natAbs).length ≤ k1 ∧ (digs (dR A D)).length ≤ k2 := by
  constructor
  · unfold nR
    rw [sg_abs]
    exact Nat.le_trans (digs_length_mono (Nat.div_le_self _ _)) h1
  · unfold dR
    exact Nat.le_trans (digs_length_mono (Nat.div_le_self _ _)) h2
theorem rv_dl {A : Int} {D k1 k2 : Nat} {u : Value} {w : World} (h : Rv A (D : Int) k1 k2 u w) : (digs A.natAbs).length ≤ k1 ∧ (digs D).length ≤ k2 := by
  obtain ⟨x0, x1, y0, y1, _, h1, h2⟩ := h
  obtain ⟨s, p, n, c, xs, _, hs, rfl, hn⟩ := h1
  obtain ⟨t, q, m, d, ys, _, hs2, e, hm⟩ := h2
  refine ⟨?_, ?_⟩
  · rw [sg_abs]; have := hs.dl; omega
  · have := hs2.dl
    have e2 := congrArg Int.natAbs e
    rw [sg_abs] at e2
    have e3 : val ys = D := by simpa using e2
    rw [← e3]
    omega
theorem g_qtext {A : Int} {D k1 k2 : Nat} (hk1 : k1 ≤ 1048576) (hk2 : k2 ≤ 1048576) (hD : D ≠ 0) (hmt : decide (0 < (D : Int).sign) = true) : ∀ w u, Tab w → Rv A (D : Int) k1 k2 u w → Calls Tryz.prog 5 #[u] w (Gives (TWO (IS (str (txQ (nR A D) (dR A D)))) (IS (.int .i64 0))) w) := fun w u hT h => by
  obtain ⟨a1, a2⟩ := rv_dl h
  obtain ⟨b1, b2⟩ := low_dl a1 a2
  by_cases hd : dR A D = 1
  · exact qtext_w w A D k1 k2 u h hk1 hk2 hD _ _ rfl rfl (by omega) (by omega) hmt hT hd
  · exact qtext_f w A D k1 k2 u h hk1 hk2 hD _ _ rfl rfl (by omega) (by omega) hmt hT hd
theorem g_qrtext {A : Int} {D k1 k2 : Nat} (hk1 : k1 ≤ 1048576) (hk2 : k2 ≤ 1048576) (hD : D ≠ 0) : ∀ w u, Rv A (D : Int) k1 k2 u w → Calls Tryz.prog 7 #[u] w (Gives (IS (str (txQ (nR A D) (dR A D)))) w) := fun w u h => by
  obtain ⟨a1, a2⟩ := rv_dl h
  obtain ⟨b1, b2⟩ := low_dl a1 a2
  by_cases hd : dR A D = 1
  · exact qrtext_w w A D k1 k2 u h hk1 hk2 hD _ _ rfl rfl (by omega) (by omega) hd
  · exact qrtext_f w A D k1 k2 u h hk1 hk2 hD _ _ rfl rfl (by omega) (by omega) hd
theorem g_sameQ {N : Int} {D lo lo' : Nat} : ∀ w u v, RQ N D lo u w → RQ N D lo' v w → Calls Tryz.prog 10 #[u, v] w (Gives (IS (.bool true)) w) := fun w u v h1 h2 => by
  unfold RQ at h1 h2
  by_cases h : D = 0
  · rw [if_pos h] at h1 h2
    exact g_same0 w u v h1 h2
  · rw [if_neg h] at h1 h2
    exact g_same w u v h1 h2
theorem shp_rq {N : Int} {D lo : Nat} : Shp 4 (RQ N D lo) := by
  unfold RQ
  split
  · exact shp_r0
  · exact shp_pr shp_zn shp_zn

set_option maxHeartbeats 4000000 in
theorem rattexts_y (w : World) (A : Int) (D k1 k2 : Nat) (u : Value) (h : Rv A (D : Int) k1 k2 u w) (hk1 : k1 ≤ 1048576) (hk2 : k2 ≤ 1048576) (l : List UInt8) (Nq E0 : Int) (Dq A0 : Nat) (hR : RqIs l Nq Dq A0 E0) (hT : Tab w) (hD : D ≠ 0) (hmt : decide (0 < (D : Int).sign) = true) :
    Calls Tryz.prog 3 #[u, str l] w (Gives (IS (.bool true)) w) := by
  refine calls_sta (sl := [(0, (PR (Zv A k1) (Zv ((D : Int)) k2))), (1, (sV l))]) Tryz.func3 rfl Tryz.ntmps3 (by simp) (args_cons rfl (rv_has h) (args_cons rfl (is_has _) args_nil)) ?_
  intro a0 S0
  replace S0 : Sta w 63 [] [(0, (PR (Zv A k1) (Zv ((D : Int)) k2))), (1, sV l), (1000001, TT)] (fun _ => False) a0 w := S0.moreT 1000001 (tt_has hT)
  refine wp_stmt_seq [.new (.box 26 (PR (Zv A k1) (Zv ((D : Int)) k2))), kF] [.inl 0] [.inr 1, .inr 2] follows S0 rfl (by kernel_rfl) ?_ ?_
  · refine ⟨⟨trivial, ?_⟩, ?_⟩
    · exact owe_box rfl wA rfl (oS 0 0) rfl (fun ρ w h => box_rat (shp_pr shp_zv shp_zv) ρ _ _ w h)
    · exact mC
  intro B1 a1 W1 (S1 : Sta w 63 [(2, (.box 26 (PR (Zv A k1) (Zv ((D : Int)) k2))))] [(1, sV l), (1000001, TT)] _ _ _)
  refine wp_stmt_seq [.val (PR (Zv A k1) (Zv ((D : Int)) k2)), .val ((TWO (IS (str (txQ (nR A D) (dR A D)))) (IS (.int .i64 0))) w.heap.size), .val ((TWO (IS (str (txQ (nR A D) (dR A D)))) (IS (.int .i64 0))) w.heap.size), .val (sV (txQ (nR A D) (dR A D))), .val (iV 0), .val (sV (txQ (nR A D) (dR A D))), .val (iV 0)] [.inr 0] [.inl 5, .inl 6, .inr 0, .inr 1] follows S1 rfl (by kernel_rfl) ?_ ?_
  · repeat' refine And.intro ?_ ?_
    · trivial
    · exact lod 0 wA (loads_of strct_rat (shp_pr shp_zv shp_zv))
    · exact owe_callh1 rfl wA rfl (opnd_tp ((oO 0 14).imp (pr_imp (fun _ _ h => h) (fun _ _ h => h))) (oS 1 1000001)) (fresh_two (fresh_is _) (fresh_is _)) rfl (fun args w => by go_simp) (fun w u h => g_qtext hk1 hk2 hD hmt w u (tp_out h).2 (tp_out h).1.now)
    · exact mO 1 15
    · exact e20 wA (oO 2 13)
    · exact e21 wA (oO 2 13)
    · exact mO 3 16
    · exact mO 4 17
  intro B2 a2 W2 (S2 : Sta w 63 [(2, (.box 26 (PR (Zv A k1) (Zv ((D : Int)) k2))))] [(5, sV (txQ (nR A D) (dR A D))), (6, iV 0), (1, sV l), (1000001, TT)] _ _ _)
  refine wp_seq ?_
  refine wp_stmt_seq [.val (PR (Zv A k1) (Zv ((D : Int)) k2)), kT, kF] [.inr 0] [.inl 2, .inr 0, .inr 1, .inr 2, .inr 3] follows S2 rfl (by kernel_rfl) ?_ ?_
  · refine ⟨⟨⟨trivial, ?_⟩, ?_⟩, ?_⟩
    · exact lod 0 wA (loads_of strct_rat (shp_pr shp_zv shp_zv))
    · exact cc1 wA (qO 0 18 rfl) (fresh_is _) (fun w u h1 => by have := (fun w u h1 => g_rok (by omega) (by omega) w u ((pr_imp (fun _ _ h => h) (fun _ _ h => h)) _ _ h1)) w u h1; rw [hmt] at this; exact this)
    · exact b_not wA (oO 1 19)
  intro B3 a3 W3 (S3 : Sta w 63 [(2, (.box 26 (PR (Zv A k1) (Zv ((D : Int)) k2))))] [(20, bF), (5, sV (txQ (nR A D) (dR A D))), (6, iV 0), (1, sV l), (1000001, TT)] _ _ _)
  refine wp_cond_false (S3.bool 0 20 rfl) ?_
  refine wp_stmt_seq [.val (iV 0), kF, kF, .val (sV (txQ (nR A D) (dR A D))), .val (PR (Zv A k1) (Zv ((D : Int)) k2)), .val (sV (txQ (nR A D) (dR A D))), kF, kF] [] [.inl 7, .inr 3, .inr 4] follows S3 rfl (by kernel_rfl) ?_ ?_
  · repeat' refine And.intro ?_ ?_
    · trivial
    · exact mS 2 6
    · exact b_neq_errno_f wA (oO 0 27) (opnd_const _) (h := rfl)
    · exact mO 1 28
    · exact mW (wI 2 29) (oS 1 5)
    · exact lod 0 (wI 2 29) (loads_of strct_rat (shp_pr shp_zv shp_zv))
    · exact ch1 (wI 2 29) ((qO 4 31 rfl).imp (pr_imp (fun _ _ h => h) (fun _ _ h => h))) (fresh_is _) (fun w u h => g_qrtext hk1 hk2 hD w u h.now)
    · exact owe_bin rfl (wI 2 29) rfl (oO 3 30) (oO 5 32) rfl (fun ρ w h1 h2 => by exact run_neq_string_f ρ _ _ _ w _ _ rfl h1 h2)
    · exact pF wA (oO 2 29) (oO 6 33)
  intro B4 a4 W4 (S4 : Sta w 63 [] [(34, bF), (1, sV l), (1000001, TT)] _ _ _)
  refine wp_cond_false (S4.bool 0 34 rfl) ?_
  refine wp_skip ?_
  refine thenN ?_
  refine wp_stmt_seq [.val (sV l), .val ((THREE (RQ Nq Dq) (IS (.int .i64 (A0 : Nat))) (IS (.int .i64 E0))) w.heap.size), .val ((THREE (RQ Nq Dq) (IS (.int .i64 (A0 : Nat))) (IS (.int .i64 E0))) w.heap.size), .val ((RQ Nq Dq) w.heap.size), .val (iV (A0 : Nat)), .val (iV E0), .new (.box 26 zR), .put (.inr 6) (.box 26 ((RQ Nq Dq) w.heap.size)), .val (iV (A0 : Nat)), .val (iV E0)] [.inl 6] [.inl 8, .inl 9, .inr 1, .inr 2] follows S4 rfl (by kernel_rfl) ?_ ?_
  · repeat' refine And.intro ?_ ?_
    · trivial
    · exact mS 1 1
    · exact ch1 wA (qO 0 36 rfl) (fresh_three (fresh_rq _ _) (fresh_is _) (fresh_is _)) (fun w u h => h_rread hR w u h.now)
    · exact mO 1 37
    · exact e30 wA (oO 2 35)
    · exact e31 wA (oO 2 35)
    · exact e32 wA (oO 2 35)
    · exact owe_new rfl wA rfl rfl (fun ρ w => alloc_rat ρ _ w)
    · exact owe_put 6 rfl wA rfl (by kernel_rfl) rfl (oO 3 38) (stores_of strct_rat shp_r0 shp_rq) rfl
    · exact mO 4 39
    · exact mO 5 40
  intro B5 a5 W5 (S5 : Sta w 63 [(7, (.box 26 ((RQ Nq Dq) w.heap.size)))] [(8, iV (A0 : Nat)), (9, iV E0), (1, sV l), (1000001, TT)] _ _ _)
  refine wp_stmt_seq [.val (sV l), .val ((THREE (RQ Nq Dq) (IS (.int .i64 (A0 : Nat))) (IS (.int .i64 E0))) w.heap.size), .val ((THREE (RQ Nq Dq) (IS (.int .i64 (A0 : Nat))) (IS (.int .i64 E0))) w.heap.size), .val ((RQ Nq Dq) w.heap.size), .val (iV (A0 : Nat)), .val (iV E0), .new (.box 26 zR), .put (.inr 6) (.box 26 ((RQ Nq Dq) w.heap.size)), .val (iV (A0 : Nat)), .val (iV E0)] [.inr 0, .inl 6] [.inl 8, .inl 9, .inr 0, .inr 1, .inr 3] follows S5 rfl (by kernel_rfl) ?_ ?_
  · repeat' refine And.intro ?_ ?_
    · trivial
    · exact mS 2 1
    · exact ch1 wA (qO 0 42 rfl) (fresh_three (fresh_rq _ _) (fresh_is _) (fresh_is _)) (fun w u h => h_rfread hR w u h.now)
    · exact mO 1 43
    · exact e30 wA (oO 2 41)
    · exact e31 wA (oO 2 41)
    · exact e32 wA (oO 2 41)
    · exact owe_new rfl wA rfl rfl (fun ρ w => alloc_rat ρ _ w)
    · exact owe_put 6 rfl wA rfl (by kernel_rfl) rfl (oO 3 44) (stores_of strct_rat shp_r0 shp_rq) rfl
    · exact mO 4 45
    · exact mO 5 46
  intro B6 a6 W6 (S6 : Sta w 63 [(7, (.box 26 ((RQ Nq Dq) w.heap.size))), (10, (.box 26 ((RQ Nq Dq) w.heap.size)))] [(11, iV (A0 : Nat)), (12, iV E0), (8, iV (A0 : Nat)), (9, iV E0), (1000001, TT)] _ _ _)
  refine wp_stmt_seq [.val ((RQ Nq Dq) w.heap.size), .val ((RQ Nq Dq) w.heap.size), kT, kT, .val (iV (A0 : Nat)), .val (iV (A0 : Nat)), kT, kT, kT, .val (iV E0), .val (iV E0), kT, kT, kT, kT, kT, kT] [] [.inl 16, .inr 4] follows S6 rfl (by kernel_rfl) ?_ ?_
  · repeat' refine And.intro ?_ ?_
    · trivial
    · exact lod 0 wA (loads_of strct_rat shp_rq)
    · exact lod 1 wA (loads_of strct_rat shp_rq)
    · exact cc2 wA (qO 0 47 rfl) (qO 1 48 rfl) (fresh_is _) g_sameQ
    · exact mO 2 49
    · exact mW (wI 3 50) (oS 2 8)
    · exact mW (wI 3 50) (oS 0 11)
    · exact b_eql_int_t (wI 3 50) (oO 4 51) (oO 5 52) (h := rfl)
    · exact pT wA (oO 3 50) (oO 6 53)
    · exact mO 7 54
    · exact mW (wI 8 55) (oS 3 9)
    · exact mW (wI 8 55) (oS 1 12)
    · exact b_eql_int_t (wI 8 55) (oO 9 56) (oO 10 57) (h := rfl)
    · exact pT wA (oO 8 55) (oO 11 58)
    · exact mO 12 59
    · exact owe_call0 rfl (wI 13 60) rfl  (fresh_is _) rfl (fun args w => by go_simp) g_awake
    · exact pT wA (oO 13 60) (oO 14 61)
    · exact mO 15 62
  intro B7 a7 W7 (S7 : Sta w 63 [] [(4, bT), (1000001, TT)] _ _ _)
  refine wp_ret ?_
  exact end_one S7 rfl (res_tmp S7 0 4 rfl)

set_option maxHeartbeats 4000000 in
theorem rattexts_n (w : World) (A D : Int) (k1 k2 : Nat) (u : Value) (h : Rv A D k1 k2 u w) (hk1 : k1 ≤ 1048576) (hk2 : k2 ≤ 1048576) (l : List UInt8) (Nq E0 : Int) (Dq A0 : Nat) (hR : RqIs l Nq Dq A0 E0) (hT : Tab w) (hmf : decide (0 < D.sign) = false) :
    Calls Tryz.prog 3 #[u, str l] w (Gives (IS (.bool true)) w) := by
  refine calls_sta (sl := [(0, (PR (Zv A k1) (Zv D k2))), (1, (sV l))]) Tryz.func3 rfl Tryz.ntmps3 (by simp) (args_cons rfl (rv_has h) (args_cons rfl (is_has _) args_nil)) ?_
  intro a0 S0
  replace S0 : Sta w 63 [] [(0, (PR (Zv A k1) (Zv D k2))), (1, sV l), (1000001, TT)] (fun _ => False) a0 w := S0.moreT 1000001 (tt_has hT)
  refine wp_stmt_seq [.new (.box 26 (PR (Zv A k1) (Zv D k2))), kF] [.inl 0] [.inr 1, .inr 2] follows S0 rfl (by kernel_rfl) ?_ ?_
  · refine ⟨⟨trivial, ?_⟩, ?_⟩
    · exact owe_box rfl wA rfl (oS 0 0) rfl (fun ρ w h => box_rat (shp_pr shp_zv shp_zv) ρ _ _ w h)
    · exact mC
  intro B1 a1 W1 (S1 : Sta w 63 [(2, (.box 26 (PR (Zv A k1) (Zv D k2))))] [(1, sV l), (1000001, TT)] _ _ _)
  refine wp_stmt_seq [.val (PR (Zv A k1) (Zv D k2)), .val ((TWO (IS (str [])) (IS (.int .i64 30))) w.heap.size), .val ((TWO (IS (str [])) (IS (.int .i64 30))) w.heap.size), .val (Is (str [])), .val (iV 30), .val (Is (str [])), .val (iV 30)] [.inr 0] [.inl 5, .inl 6, .inr 0, .inr 1] follows S1 rfl (by kernel_rfl) ?_ ?_
  · repeat' refine And.intro ?_ ?_
    · trivial
    · exact lod 0 wA (loads_of strct_rat (shp_pr shp_zv shp_zv))
    · exact ch1 wA ((qO 0 14 rfl).imp (pr_imp (fun _ _ h => h) (fun _ _ h => h))) (fresh_two (fresh_is _) (fresh_is _)) (fun w u h => qtext_b w _ _ _ _ u h.now hk1 hk2 hmf)
    · exact mO 1 15
    · exact e20 wA (oO 2 13)
    · exact e21 wA (oO 2 13)
    · exact mO 3 16
    · exact mO 4 17
  intro B2 a2 W2 (S2 : Sta w 63 [(2, (.box 26 (PR (Zv A k1) (Zv D k2))))] [(5, Is (str [])), (6, iV 30), (1, sV l), (1000001, TT)] _ _ _)
  refine wp_seq ?_
  refine wp_stmt_seq [.val (PR (Zv A k1) (Zv D k2)), kF, kT] [.inr 0] [.inl 2, .inr 0, .inr 1, .inr 2, .inr 3] follows S2 rfl (by kernel_rfl) ?_ ?_
  · refine ⟨⟨⟨trivial, ?_⟩, ?_⟩, ?_⟩
    · exact lod 0 wA (loads_of strct_rat (shp_pr shp_zv shp_zv))
    · exact cc1 wA (qO 0 18 rfl) (fresh_is _) (fun w u h1 => by have := (fun w u h1 => g_rok (by omega) (by omega) w u ((pr_imp (fun _ _ h => h) (fun _ _ h => h)) _ _ h1)) w u h1; rw [hmf] at this; exact this)
    · exact b_not wA (oO 1 19)
  intro B3 a3 W3 (S3 : Sta w 63 [(2, (.box 26 (PR (Zv A k1) (Zv D k2))))] [(20, bT), (5, Is (str [])), (6, iV 30), (1, sV l), (1000001, TT)] _ _ _)
  refine wp_cond_true (S3.bool 0 20 rfl) ?_
  refine wp_stmt_seq [.val (iV 30), kF, kF, .val (Is (str [])), kF, kF] [] [.inl 5, .inr 3, .inr 4] follows S3 rfl (by kernel_rfl) ?_ ?_
  · refine ⟨⟨⟨⟨⟨⟨trivial, ?_⟩, ?_⟩, ?_⟩, ?_⟩, ?_⟩, ?_⟩
    · exact mS 2 6
    · exact b_neq_errno_f wA (oO 0 21) (opnd_const _) (h := rfl)
    · exact mO 1 22
    · exact mW (wI 2 23) (oS 1 5)
    · exact owe_bin rfl (wI 2 23) rfl (oO 3 24) ((opnd_const _).imp (fun _ _ h => h)) rfl (fun ρ w h1 h2 => by exact run_neq_string_f ρ _ _ _ w _ _ rfl h1 h2)
    · exact pF wA (oO 2 23) (oO 4 25)
  intro B4 a4 W4 (S4 : Sta w 63 [] [(26, bF), (1, sV l), (1000001, TT)] _ _ _)
  refine wp_cond_false (S4.bool 0 26 rfl) ?_
  refine wp_skip ?_
  refine thenN ?_
  refine wp_stmt_seq [.val (sV l), .val ((THREE (RQ Nq Dq) (IS (.int .i64 (A0 : Nat))) (IS (.int .i64 E0))) w.heap.size), .val ((THREE (RQ Nq Dq) (IS (.int .i64 (A0 : Nat))) (IS (.int .i64 E0))) w.heap.size), .val ((RQ Nq Dq) w.heap.size), .val (iV (A0 : Nat)), .val (iV E0), .new (.box 26 zR), .put (.inr 6) (.box 26 ((RQ Nq Dq) w.heap.size)), .val (iV (A0 : Nat)), .val (iV E0)] [.inl 6] [.inl 8, .inl 9, .inr 1, .inr 2] follows S4 rfl (by kernel_rfl) ?_ ?_
  · repeat' refine And.intro ?_ ?_
    · trivial
    · exact mS 1 1
    · exact ch1 wA (qO 0 36 rfl) (fresh_three (fresh_rq _ _) (fresh_is _) (fresh_is _)) (fun w u h => h_rread hR w u h.now)
    · exact mO 1 37
    · exact e30 wA (oO 2 35)
    · exact e31 wA (oO 2 35)
    · exact e32 wA (oO 2 35)
    · exact owe_new rfl wA rfl rfl (fun ρ w => alloc_rat ρ _ w)
    · exact owe_put 6 rfl wA rfl (by kernel_rfl) rfl (oO 3 38) (stores_of strct_rat shp_r0 shp_rq) rfl
    · exact mO 4 39
    · exact mO 5 40
  intro B5 a5 W5 (S5 : Sta w 63 [(7, (.box 26 ((RQ Nq Dq) w.heap.size)))] [(8, iV (A0 : Nat)), (9, iV E0), (1, sV l), (1000001, TT)] _ _ _)
  refine wp_stmt_seq [.val (sV l), .val ((THREE (RQ Nq Dq) (IS (.int .i64 (A0 : Nat))) (IS (.int .i64 E0))) w.heap.size), .val ((THREE (RQ Nq Dq) (IS (.int .i64 (A0 : Nat))) (IS (.int .i64 E0))) w.heap.size), .val ((RQ Nq Dq) w.heap.size), .val (iV (A0 : Nat)), .val (iV E0), .new (.box 26 zR), .put (.inr 6) (.box 26 ((RQ Nq Dq) w.heap.size)), .val (iV (A0 : Nat)), .val (iV E0)] [.inr 0, .inl 6] [.inl 8, .inl 9, .inr 0, .inr 1, .inr 3] follows S5 rfl (by kernel_rfl) ?_ ?_
  · repeat' refine And.intro ?_ ?_
    · trivial
    · exact mS 2 1
    · exact ch1 wA (qO 0 42 rfl) (fresh_three (fresh_rq _ _) (fresh_is _) (fresh_is _)) (fun w u h => h_rfread hR w u h.now)
    · exact mO 1 43
    · exact e30 wA (oO 2 41)
    · exact e31 wA (oO 2 41)
    · exact e32 wA (oO 2 41)
    · exact owe_new rfl wA rfl rfl (fun ρ w => alloc_rat ρ _ w)
    · exact owe_put 6 rfl wA rfl (by kernel_rfl) rfl (oO 3 44) (stores_of strct_rat shp_r0 shp_rq) rfl
    · exact mO 4 45
    · exact mO 5 46
  intro B6 a6 W6 (S6 : Sta w 63 [(7, (.box 26 ((RQ Nq Dq) w.heap.size))), (10, (.box 26 ((RQ Nq Dq) w.heap.size)))] [(11, iV (A0 : Nat)), (12, iV E0), (8, iV (A0 : Nat)), (9, iV E0), (1000001, TT)] _ _ _)
  refine wp_stmt_seq [.val ((RQ Nq Dq) w.heap.size), .val ((RQ Nq Dq) w.heap.size), kT, kT, .val (iV (A0 : Nat)), .val (iV (A0 : Nat)), kT, kT, kT, .val (iV E0), .val (iV E0), kT, kT, kT, kT, kT, kT] [] [.inl 16, .inr 4] follows S6 rfl (by kernel_rfl) ?_ ?_
  · repeat' refine And.intro ?_ ?_
    · trivial
    · exact lod 0 wA (loads_of strct_rat shp_rq)
    · exact lod 1 wA (loads_of strct_rat shp_rq)
    · exact cc2 wA (qO 0 47 rfl) (qO 1 48 rfl) (fresh_is _) g_sameQ
    · exact mO 2 49
    · exact mW (wI 3 50) (oS 2 8)
    · exact mW (wI 3 50) (oS 0 11)
    · exact b_eql_int_t (wI 3 50) (oO 4 51) (oO 5 52) (h := rfl)
    · exact pT wA (oO 3 50) (oO 6 53)
    · exact mO 7 54
    · exact mW (wI 8 55) (oS 3 9)
    · exact mW (wI 8 55) (oS 1 12)
    · exact b_eql_int_t (wI 8 55) (oO 9 56) (oO 10 57) (h := rfl)
    · exact pT wA (oO 8 55) (oO 11 58)
    · exact mO 12 59
    · exact owe_call0 rfl (wI 13 60) rfl  (fresh_is _) rfl (fun args w => by go_simp) g_awake
    · exact pT wA (oO 13 60) (oO 14 61)
    · exact mO 15 62
  intro B7 a7 W7 (S7 : Sta w 63 [] [(4, bT), (1000001, TT)] _ _ _)
  refine wp_ret ?_
  exact end_one S7 rfl (res_tmp S7 0 4 rfl)

theorem rattexts_walk (w : World) (s : Bool) (p : Option Addr) (n c : Nat) (xs : List Nat) (t : Bool) (q : Option Addr) (m d : Nat) (ys : List Nat) (tx : ByteArray) (h : Sl w p n c xs) (h' : Sl w q m d ys) (b0 : c ≤ 1048576) (b0' : d ≤ 1048576) (b1 : tx.size ≤ 1048576) (ht : Tab w) :
    Calls Tryz.prog 3 #[.agg #[.bool s, .slice p n c, .bool t, .slice q m d], .string tx] w fun e w' => e = .returned (.bool true) ∧ Below w.heap.size w w' := by
  have q0 := h.cap
  have q1 := h'.cap
  obtain ⟨N, D, A, E, hR⟩ := rq_some tx.data.toList
  have e : Value.string tx = str tx.data.toList := by unfold str; simp
  rw [e]
  have hv := rv_in (s := s) (t := t) h h'
  have fin : ∀ {e : Ending} {w' : World}, Gives (IS (.bool true)) w e w' → e = .returned (.bool true) ∧ Below w.heap.size w w' := by
    rintro e w' ⟨v, rfl, hb, hv⟩
    obtain rfl : v = _ := hv
    exact ⟨rfl, hb⟩
  cases hm : decide (0 < (sg t (val ys)).sign) with
  | true =>
    obtain ⟨d0, e0, e1⟩ := pos_of_sign hm
    rw [e0] at hv hm
    exact (rattexts_y w _ d0 n m _ hv (by omega) (by omega) _ N E D A hR ht e1 hm).mono (fun e w' h => fin h)
  | false => exact (rattexts_n w _ _ n m _ hv (by omega) (by omega) _ N E D A hR ht hm).mono (fun e w' h => fin h)
end Go.Proofs.YtaplbadcpbollaaGreatDoor
