/-
  IvalSteps.
-/
import Derived.Test.YtgalppimdmjdcaaGreatFExMath
import Derived.Test.YtgalppimdmjdcaaGreatIAwake
import Derived.Test.YtgalppimdmjdcaaGreatIVal1
namespace Go.Proofs.YtgalppimdmjdcaaGreat
open Go Go.RowKit Nt
set_option linter.unusedSimpArgs false
set_option linter.unusedVariables false
set_option maxRecDepth 20000

theorem kl_len {K L N : Nat} (hK : K ≤ 9007199254740992) (hL : L ≤ N) : (digs (K * 2 ^ L)).length ≤ 53 + N + 1 := by
  have h3 : K * 2 ^ L ≤ 2 ^ 53 * 2 ^ N := Nat.mul_le_mul hK (Nat.pow_le_pow_right (by decide) hL)
  rw [← Nat.pow_add] at h3
  exact Nat.le_trans (digs_length_mono h3) (pw_len (Nat.le_refl _))
theorem mg_len {r : Nat} (h : r < 9218868437227405312) : (digs (mg r)).length ≤ 2200 := by
  obtain ⟨L, K, e, h1, h2⟩ := mg_split r
  rw [e, mg_form (by omega) h2]
  exact Nat.le_trans (kl_len (N := 2047) (by omega) (by omega)) (by decide)
theorem pw2_len (n : Nat) : (digs (pw2 n)).length ≤ n + 1 := pw_len (Nat.le_refl n)
theorem vp_abs (p : Int) : (vp p).natAbs = mg p.natAbs := by unfold vp; split <;> omega
theorem exn_len {p : Int} (h : Fin p) : (digs (nR (vp p) uF).natAbs).length ≤ 2200 := nR_len (by rw [vp_abs]; exact mg_len (by unfold Fin at h; omega))
theorem exd_len (p : Int) : (digs (dR (vp p) uF)).length ≤ 2200 := dR_len (Nat.le_trans (pw2_len 1074) (by decide))
section
variable {ops : Array Oper} {l : List Kd} {bx : Bxs} {sl : List (Tmp × Pr)} {i : Nat} {o : Oper} {Q : Exit → Act → World → Prop} {a0 : Act} {n : Nat} {w0 : World}
theorem owe_frombits {x : Operand} {ts : Array TypeId} {b : Nat} (ho : ops[i]? = some o) (hw : Wants ops l bx sl i o) (hop : o.op = .call { callee := .value (.func 7), args := #[x], argTypes := ts }) (hx : Opnd ops l bx sl i x (Is (.int .u64 ((b : Nat) : Int)))) (hk : kdAt l i = .val (Is (.float .f64 b))) : Owed Tryz.prog ops Q l bx sl a0 n w0 i :=
  owe_is ho hw hk fun vs B a w c => by
    have hxv : a.eval x = .int .u64 ((b : Nat) : Int) := (hx a0 n w0 vs B a w c).now
    have hr := run_frombits ((b : Nat) : Int) w
    have hf : a.eval (.func 7) = .func (.func 7) #[] #[] := rfl
    unfold execOp
    rw [hop]
    generalize a.eval = ρ at hf hxv
    go_simp
end
set_option maxHeartbeats 2000000 in
theorem ivalsteps_f (w : World) (b : Nat) (hb : b < 18446744073709551616) (p : Int) (hp : plc b = some p) (hq : Fin p) :
    Calls Tryz.prog 3 #[(.int .u64 ((b : Nat) : Int))] w (Gives (IS (.bool true)) w) := by
  refine calls_sta (sl := [(0, (Is (.int .u64 ((b : Nat) : Int))))]) Tryz.func3 rfl Tryz.ntmps3 (by simp) (args_cons rfl (is_has _) args_nil) ?_
  intro a0 S0
  refine wp_stmt_seq [kF] [] [.inr 0] follows S0 rfl (by kernel_rfl) ?_ ?_
  · refine ⟨trivial, ?_⟩
    · exact mC
  intro B1 a1 W1 (S1 : Sta w 54 [] [(0, Is (.int .u64 ((b : Nat) : Int)))] _ _ _)
  refine wp_stmt_seq [.val (Is (.int .u64 ((b : Nat) : Int))), .val (Is (.float .f64 b)), .val (Is (.float .f64 b))] [] [.inl 2] follows S1 rfl (by kernel_rfl) ?_ ?_
  · refine ⟨⟨⟨trivial, ?_⟩, ?_⟩, ?_⟩
    · exact mS 0 0
    · exact owe_frombits rfl wA rfl (oO 0 8) rfl
    · exact mO 1 9
  intro B2 a2 W2 (S2 : Sta w 54 [] [(3, Is (.float .f64 b))] _ _ _)
  refine wp_stmt_seq [.val (Is (.float .f64 b)), .val ((TWO (RN (nR (vp p) uF) (dR (vp p) uF)) (IS (.bool true))) w.heap.size), .val ((TWO (RN (nR (vp p) uF) (dR (vp p) uF)) (IS (.bool true))) w.heap.size), .val ((RN (nR (vp p) uF) (dR (vp p) uF)) w.heap.size), kT, .new (.box 29 zR), .put (.inr 5) (.box 29 ((RN (nR (vp p) uF) (dR (vp p) uF)) w.heap.size)), kT] [.inl 5] [.inl 7, .inr 0] follows S2 rfl (by kernel_rfl) ?_ ?_
  · repeat' refine And.intro ?_ ?_
    · trivial
    · exact mS 0 3
    · exact cc1 wA (qO 0 11 rfl) (fresh_two (fresh_rn _ _) (fresh_is _)) (pur_is (fun w => exact_fin w b hb p hp hq))
    · exact mO 1 12
    · exact e20 wA (oO 2 10)
    · exact e21 wA (oO 2 10)
    · exact owe_new rfl wA rfl rfl (fun ρ w => alloc_rat ρ _ w)
    · exact owe_put 5 rfl wA rfl (by kernel_rfl) rfl (oO 3 13) (stores_of strct_rat shp_r0 (shp_pr shp_zn shp_zn)) rfl
    · exact mO 4 14
  intro B3 a3 W3 (S3 : Sta w 54 [(4, (.box 29 ((RN (nR (vp p) uF) (dR (vp p) uF)) w.heap.size)))] [(5, bT), (3, Is (.float .f64 b))] _ _ _)
  refine wp_stmt_seq [.val (Is (.float .f64 b)), .val ((TWO (RN (nR (vp p) uF) (dR (vp p) uF)) (IS (.bool true))) w.heap.size), .val ((TWO (RN (nR (vp p) uF) (dR (vp p) uF)) (IS (.bool true))) w.heap.size), .val ((RN (nR (vp p) uF) (dR (vp p) uF)) w.heap.size), kT, .new (.box 29 zR), .put (.inr 5) (.box 29 ((RN (nR (vp p) uF) (dR (vp p) uF)) w.heap.size)), kT] [.inr 0, .inl 5] [.inl 7, .inr 0, .inr 1] follows S3 rfl (by kernel_rfl) ?_ ?_
  · repeat' refine And.intro ?_ ?_
    · trivial
    · exact mS 1 3
    · exact cc1 wA (qO 0 16 rfl) (fresh_two (fresh_rn _ _) (fresh_is _)) (pur_is (fun w => rexact_fin w b hb p hp hq))
    · exact mO 1 17
    · exact e20 wA (oO 2 15)
    · exact e21 wA (oO 2 15)
    · exact owe_new rfl wA rfl rfl (fun ρ w => alloc_rat ρ _ w)
    · exact owe_put 5 rfl wA rfl (by kernel_rfl) rfl (oO 3 18) (stores_of strct_rat shp_r0 (shp_pr shp_zn shp_zn)) rfl
    · exact mO 4 19
  intro B4 a4 W4 (S4 : Sta w 54 [(4, (.box 29 ((RN (nR (vp p) uF) (dR (vp p) uF)) w.heap.size))), (6, (.box 29 ((RN (nR (vp p) uF) (dR (vp p) uF)) w.heap.size)))] [(7, bT), (5, bT), (3, Is (.float .f64 b))] _ _ _)
  refine wp_stmt_seq [.val (Is (.float .f64 b)), .val (FL (dnP (plc b))), .val (Is (.float .f64 b)), .val (FL (dnP (plc b))), kT, kT, .val (Is (.float .f64 b)), .val (FL (upP (plc b))), .val (Is (.float .f64 b)), .val (FL (upP (plc b))), kT, kT, kT, kT, kT, kT, kT, kT, .val (Part a4 4 0), .val ((ZN (nR (vp p) uF)) w.heap.size), .val (Part a4 6 0), .val ((ZN (nR (vp p) uF)) w.heap.size), kT, kT, kT, .val (Part a4 4 2), .val ((ZN (((dR (vp p) uF : Nat) : Int))) w.heap.size), .val (Part a4 6 2), .val ((ZN (((dR (vp p) uF : Nat) : Int))) w.heap.size), kT, kT, kT, kT, kT, kT] [] [.inl 34] follows S4 rfl (by kernel_rfl) ?_ ?_
  · repeat' refine And.intro ?_ ?_
    · trivial
    · exact mS 2 3
    · exact cc1 wA (qO 0 20 rfl) (fresh_fl _) (purF1 (down_f b hb))
    · exact mS 2 3
    · exact cc1 wA (qO 2 22 rfl) (fresh_fl _) (purF1 (rdown_f b hb))
    · exact cc2 wA (qO 1 21 rfl) (qO 3 23 rfl) (fresh_is _) h_equal
    · exact mO 4 24
    · exact mW (wI 5 25) (oS 2 3)
    · exact cc1 (wI 5 25) (qO 6 26 rfl) (fresh_fl _) (purF1 (up_f b hb))
    · exact mW (wI 5 25) (oS 2 3)
    · exact cc1 (wI 5 25) (qO 8 28 rfl) (fresh_fl _) (purF1 (rup_f b hb))
    · exact cc2 (wI 5 25) (qO 7 27 rfl) (qO 9 29 rfl) (fresh_is _) h_equal
    · exact pT wA (oO 5 25) (oO 10 30)
    · exact mO 11 31
    · exact mW (wI 12 32) (oS 1 5)
    · exact mW (wI 12 32) (oS 0 7)
    · exact owe_bin rfl (wI 12 32) rfl (oO 13 33) (oO 14 34) rfl (fun ρ w h1 h2 => by exact run_eql_bool ρ _ _ _ w _ _ h1 h2)
    · exact pT wA (oO 12 32) (oO 15 35)
    · exact mO 16 36
    · exact owe_part rfl (wI 17 37) rfl (k := 0) rfl (by kernel_rfl) rfl (fun ρ w b h => part_rat0 ρ _ _ w b 0 h)
    · exact owe_pload rfl (wI 17 37) rfl (oO 18 38) (k := 0) rfl (by kernel_rfl) rfl (fun ρ w b u h1 h2 h3 => pload_num ρ _ _ w b u h1 h2 h3)
    · exact owe_part rfl (wI 17 37) rfl (k := 1) rfl (by kernel_rfl) rfl (fun ρ w b h => part_rat0 ρ _ _ w b 0 h)
    · exact owe_pload rfl (wI 17 37) rfl (oO 20 40) (k := 1) rfl (by kernel_rfl) rfl (fun ρ w b u h1 h2 h3 => pload_num ρ _ _ w b u h1 h2 h3)
    · exact cc2 (wI 17 37) (qO 19 39 rfl) (qO 21 41 rfl) (fresh_is _) (fun w u v h1 h2 => h_whole (by omega) (by omega) w u v ((zn_zv (exn_len hq)) _ _ h1) ((zn_zv (exn_len hq)) _ _ h2))
    · exact pT wA (oO 17 37) (oO 22 42)
    · exact mO 23 43
    · exact owe_part rfl (wI 24 44) rfl (k := 0) rfl (by kernel_rfl) rfl (fun ρ w b h => part_rat1 ρ _ _ w b 0 h)
    · exact owe_pload rfl (wI 24 44) rfl (oO 25 45) (k := 0) rfl (by kernel_rfl) rfl (fun ρ w b u h1 h2 h3 => pload_den ρ _ _ w b u h1 h2 h3)
    · exact owe_part rfl (wI 24 44) rfl (k := 1) rfl (by kernel_rfl) rfl (fun ρ w b h => part_rat1 ρ _ _ w b 0 h)
    · exact owe_pload rfl (wI 24 44) rfl (oO 27 47) (k := 1) rfl (by kernel_rfl) rfl (fun ρ w b u h1 h2 h3 => pload_den ρ _ _ w b u h1 h2 h3)
    · exact cc2 (wI 24 44) (qO 26 46 rfl) (qO 28 48 rfl) (fresh_is _) (fun w u v h1 h2 => h_whole (by omega) (by omega) w u v ((zn_zv (exd_len p)) _ _ h1) ((zn_zv (exd_len p)) _ _ h2))
    · exact pT wA (oO 24 44) (oO 29 49)
    · exact mO 30 50
    · exact owe_call0 rfl (wI 31 51) rfl  (fresh_is _) rfl (fun args w => by go_simp) awake_w
    · exact pT wA (oO 31 51) (oO 32 52)
    · exact mO 33 53
  intro B5 a5 W5 (S5 : Sta w 54 [] [(2, bT)] _ _ _)
  refine wp_ret ?_
  exact end_one S5 rfl (res_tmp S5 0 2 rfl)
set_option maxHeartbeats 2000000 in
theorem ivalsteps_n (w : World) (b : Nat) (hb : b < 18446744073709551616) (h : ∀ p, plc b = some p → ¬ Fin p) :
    Calls Tryz.prog 3 #[(.int .u64 ((b : Nat) : Int))] w (Gives (IS (.bool true)) w) := by
  refine calls_sta (sl := [(0, (Is (.int .u64 ((b : Nat) : Int))))]) Tryz.func3 rfl Tryz.ntmps3 (by simp) (args_cons rfl (is_has _) args_nil) ?_
  intro a0 S0
  refine wp_stmt_seq [kF] [] [.inr 0] follows S0 rfl (by kernel_rfl) ?_ ?_
  · refine ⟨trivial, ?_⟩
    · exact mC
  intro B1 a1 W1 (S1 : Sta w 54 [] [(0, Is (.int .u64 ((b : Nat) : Int)))] _ _ _)
  refine wp_stmt_seq [.val (Is (.int .u64 ((b : Nat) : Int))), .val (Is (.float .f64 b)), .val (Is (.float .f64 b))] [] [.inl 2] follows S1 rfl (by kernel_rfl) ?_ ?_
  · refine ⟨⟨⟨trivial, ?_⟩, ?_⟩, ?_⟩
    · exact mS 0 0
    · exact owe_frombits rfl wA rfl (oO 0 8) rfl
    · exact mO 1 9
  intro B2 a2 W2 (S2 : Sta w 54 [] [(3, Is (.float .f64 b))] _ _ _)
  refine wp_stmt_seq [.val (Is (.float .f64 b)), .val ((TWO (RN 0 1) (IS (.bool false))) w.heap.size), .val ((TWO (RN 0 1) (IS (.bool false))) w.heap.size), .val ((RN 0 1) w.heap.size), kF, .new (.box 29 zR), .put (.inr 5) (.box 29 ((RN 0 1) w.heap.size)), kF] [.inl 5] [.inl 7, .inr 0] follows S2 rfl (by kernel_rfl) ?_ ?_
  · repeat' refine And.intro ?_ ?_
    · trivial
    · exact mS 0 3
    · exact cc1 wA (qO 0 11 rfl) (fresh_two (fresh_rn _ _) (fresh_is _)) (pur_is (fun w => exact_not w b hb h))
    · exact mO 1 12
    · exact e20 wA (oO 2 10)
    · exact e21 wA (oO 2 10)
    · exact owe_new rfl wA rfl rfl (fun ρ w => alloc_rat ρ _ w)
    · exact owe_put 5 rfl wA rfl (by kernel_rfl) rfl (oO 3 13) (stores_of strct_rat shp_r0 (shp_pr shp_zn shp_zn)) rfl
    · exact mO 4 14
  intro B3 a3 W3 (S3 : Sta w 54 [(4, (.box 29 ((RN 0 1) w.heap.size)))] [(5, bF), (3, Is (.float .f64 b))] _ _ _)
  refine wp_stmt_seq [.val (Is (.float .f64 b)), .val ((TWO (RN 0 1) (IS (.bool false))) w.heap.size), .val ((TWO (RN 0 1) (IS (.bool false))) w.heap.size), .val ((RN 0 1) w.heap.size), kF, .new (.box 29 zR), .put (.inr 5) (.box 29 ((RN 0 1) w.heap.size)), kF] [.inr 0, .inl 5] [.inl 7, .inr 0, .inr 1] follows S3 rfl (by kernel_rfl) ?_ ?_
  · repeat' refine And.intro ?_ ?_
    · trivial
    · exact mS 1 3
    · exact cc1 wA (qO 0 16 rfl) (fresh_two (fresh_rn _ _) (fresh_is _)) (pur_is (fun w => rexact_not w b hb h))
    · exact mO 1 17
    · exact e20 wA (oO 2 15)
    · exact e21 wA (oO 2 15)
    · exact owe_new rfl wA rfl rfl (fun ρ w => alloc_rat ρ _ w)
    · exact owe_put 5 rfl wA rfl (by kernel_rfl) rfl (oO 3 18) (stores_of strct_rat shp_r0 (shp_pr shp_zn shp_zn)) rfl
    · exact mO 4 19
  intro B4 a4 W4 (S4 : Sta w 54 [(4, (.box 29 ((RN 0 1) w.heap.size))), (6, (.box 29 ((RN 0 1) w.heap.size)))] [(7, bF), (5, bF), (3, Is (.float .f64 b))] _ _ _)
  refine wp_stmt_seq [.val (Is (.float .f64 b)), .val (FL (dnP (plc b))), .val (Is (.float .f64 b)), .val (FL (dnP (plc b))), kT, kT, .val (Is (.float .f64 b)), .val (FL (upP (plc b))), .val (Is (.float .f64 b)), .val (FL (upP (plc b))), kT, kT, kT, kF, kF, kT, kT, kT, .val (Part a4 4 0), .val ((ZN (0)) w.heap.size), .val (Part a4 6 0), .val ((ZN (0)) w.heap.size), kT, kT, kT, .val (Part a4 4 2), .val ((ZN (((1 : Nat) : Int))) w.heap.size), .val (Part a4 6 2), .val ((ZN (((1 : Nat) : Int))) w.heap.size), kT, kT, kT, kT, kT, kT] [] [.inl 34] follows S4 rfl (by kernel_rfl) ?_ ?_
  · repeat' refine And.intro ?_ ?_
    · trivial
    · exact mS 2 3
    · exact cc1 wA (qO 0 20 rfl) (fresh_fl _) (purF1 (down_f b hb))
    · exact mS 2 3
    · exact cc1 wA (qO 2 22 rfl) (fresh_fl _) (purF1 (rdown_f b hb))
    · exact cc2 wA (qO 1 21 rfl) (qO 3 23 rfl) (fresh_is _) h_equal
    · exact mO 4 24
    · exact mW (wI 5 25) (oS 2 3)
    · exact cc1 (wI 5 25) (qO 6 26 rfl) (fresh_fl _) (purF1 (up_f b hb))
    · exact mW (wI 5 25) (oS 2 3)
    · exact cc1 (wI 5 25) (qO 8 28 rfl) (fresh_fl _) (purF1 (rup_f b hb))
    · exact cc2 (wI 5 25) (qO 7 27 rfl) (qO 9 29 rfl) (fresh_is _) h_equal
    · exact pT wA (oO 5 25) (oO 10 30)
    · exact mO 11 31
    · exact mW (wI 12 32) (oS 1 5)
    · exact mW (wI 12 32) (oS 0 7)
    · exact owe_bin rfl (wI 12 32) rfl (oO 13 33) (oO 14 34) rfl (fun ρ w h1 h2 => by exact run_eql_bool ρ _ _ _ w _ _ h1 h2)
    · exact pT wA (oO 12 32) (oO 15 35)
    · exact mO 16 36
    · exact owe_part rfl (wI 17 37) rfl (k := 0) rfl (by kernel_rfl) rfl (fun ρ w b h => part_rat0 ρ _ _ w b 0 h)
    · exact owe_pload rfl (wI 17 37) rfl (oO 18 38) (k := 0) rfl (by kernel_rfl) rfl (fun ρ w b u h1 h2 h3 => pload_num ρ _ _ w b u h1 h2 h3)
    · exact owe_part rfl (wI 17 37) rfl (k := 1) rfl (by kernel_rfl) rfl (fun ρ w b h => part_rat0 ρ _ _ w b 0 h)
    · exact owe_pload rfl (wI 17 37) rfl (oO 20 40) (k := 1) rfl (by kernel_rfl) rfl (fun ρ w b u h1 h2 h3 => pload_num ρ _ _ w b u h1 h2 h3)
    · exact cc2 (wI 17 37) (qO 19 39 rfl) (qO 21 41 rfl) (fresh_is _) (fun w u v h1 h2 => h_whole (by omega) (by omega) w u v ((zn_zv zero_dlE) _ _ h1) ((zn_zv zero_dlE) _ _ h2))
    · exact pT wA (oO 17 37) (oO 22 42)
    · exact mO 23 43
    · exact owe_part rfl (wI 24 44) rfl (k := 0) rfl (by kernel_rfl) rfl (fun ρ w b h => part_rat1 ρ _ _ w b 0 h)
    · exact owe_pload rfl (wI 24 44) rfl (oO 25 45) (k := 0) rfl (by kernel_rfl) rfl (fun ρ w b u h1 h2 h3 => pload_den ρ _ _ w b u h1 h2 h3)
    · exact owe_part rfl (wI 24 44) rfl (k := 1) rfl (by kernel_rfl) rfl (fun ρ w b h => part_rat1 ρ _ _ w b 0 h)
    · exact owe_pload rfl (wI 24 44) rfl (oO 27 47) (k := 1) rfl (by kernel_rfl) rfl (fun ρ w b u h1 h2 h3 => pload_den ρ _ _ w b u h1 h2 h3)
    · exact cc2 (wI 24 44) (qO 26 46 rfl) (qO 28 48 rfl) (fresh_is _) (fun w u v h1 h2 => h_whole (by omega) (by omega) w u v ((zn_zv one_dlE) _ _ h1) ((zn_zv one_dlE) _ _ h2))
    · exact pT wA (oO 24 44) (oO 29 49)
    · exact mO 30 50
    · exact owe_call0 rfl (wI 31 51) rfl  (fresh_is _) rfl (fun args w => by go_simp) awake_w
    · exact pT wA (oO 31 51) (oO 32 52)
    · exact mO 33 53
  intro B5 a5 W5 (S5 : Sta w 54 [] [(2, bT)] _ _ _)
  refine wp_ret ?_
  exact end_one S5 rfl (res_tmp S5 0 2 rfl)

theorem ivalsteps_walk (w : World) (n : Int) (hn : 0 ≤ n ∧ n ≤ 18446744073709551615) : Calls Tryz.prog 3 #[.int .u64 n] w fun e w' => e = .returned (.bool true) ∧ Below w.heap.size w w' := by
  refine Calls.mono (R := Gives (IS (.bool true)) w) ?_ (fun e w' ⟨v, he, hb, hv⟩ => ⟨by rw [he, show v = _ from hv], hb⟩)
  obtain ⟨b, rfl⟩ : ∃ b : Nat, n = (b : Int) := ⟨n.toNat, by omega⟩
  by_cases h : ∃ p, plc b = some p ∧ Fin p
  · obtain ⟨p, hp, hq⟩ := h
    exact ivalsteps_f w b (by omega) p hp hq
  · exact ivalsteps_n w b (by omega) (fun p hp hq => h ⟨p, hp, hq⟩)
end Go.Proofs.YtgalppimdmjdcaaGreat
