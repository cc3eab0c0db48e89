/-
  zint.Shift by a number from nought on.
-/
import Derived.Test.YtgalppimdmjdcabGreatDoorSetY
namespace Go.Proofs.YtgalppimdmjdcabGreatDoor
open Go Go.RowKit Nt
set_option linter.unusedSimpArgs false
set_option linter.unusedVariables false
set_option maxRecDepth 20000

theorem nn_sl {m lo : Nat} : ∀ v w, NN m lo v w → ∃ r c, v = .slice r (digs m).length c ∧ Sl w r (digs m).length c (digs m) := fun v w ⟨r, c, e, h, _⟩ => ⟨r, c, e, h⟩
set_option maxHeartbeats 400000 in
theorem up_w0 (w : World) (p : Option Addr) (n c : Nat) (xs : List Nat) (z : Int) (h : Sl w p n c xs) (hn : n ≤ 1048576) (hz : 0 ≤ z) (hz2 : z ≤ 65536) (P M K R : Nat) (hR : z % 32 = R) (hP : 2 ^ R = P) (hP2 : P < 4294967296) (hM : P * val xs = M) (hK : z / 32 = K) (hm : (((digs M).length : Nat) : Int) = 0) :
    Calls Tryz.prog 40 #[.slice p n c, .int .i64 z] w (Gives (IS (.slice none 0 0)) w) := by
  refine calls_sta (sl := [(0, (Nx p n c xs)), (1, (iV z))]) Tryz.func40 rfl Tryz.ntmps40 (by simp) (args_cons rfl (nx_has h) (args_cons rfl (is_has _) args_nil)) ?_
  intro a0 S0
  refine wp_stmt_seq [.val (Is (.slice none 0 0))] [] [.inl 0, .inr 0, .inr 1] follows S0 rfl (by kernel_rfl) ?_ ?_
  · refine ⟨trivial, ?_⟩
    · exact mC
  intro B1 a1 W1 (S1 : Sta w 29 [] [(4, Is (.slice none 0 0)), (0, Nx p n c xs), (1, iV z)] _ _ _)
  refine wp_stmt_seq [.val (iV z), .val (iV R), .val (Is (.int .u32 P)), .val ((BS P) w.heap.size), .val (Nx p n c xs), .val ((NN (M)) w.heap.size), .val ((NN (M)) w.heap.size)] [] [.inl 6, .inr 0, .inr 2] follows S1 rfl (by kernel_rfl) ?_ ?_
  · repeat' refine And.intro ?_ ?_
    · trivial
    · exact mS 2 1
    · exact owe_bin rfl wA rfl (oO 0 7) (opnd_const _) rfl (fun ρ w h1 h2 => by exact run_rem_int ρ _ _ _ w _ _ _ ⟨hR, hz, by omega, by omega⟩ h1 h2)
    · exact owe_bin rfl wA rfl (opnd_const _) (oO 1 8) rfl (fun ρ w h1 h2 => by exact run_shl1 ρ _ _ _ w R P (by omega) hP h1 h2)
    · exact owe_bs rfl wA rfl (oO 2 9) hP2 rfl
    · exact mS 1 0
    · exact cc2 wA (qO 3 10 rfl) (qO 4 11 rfl) (fresh_nn _) (fun w u0 u1 h0 h1 => Gives.cast ((fun w u v h1 h2 => g_mul (by omega) w u v (bs_nv _ _ h1) ((nx_nv (Nat.le_refl _)) _ _ h2)) w u0 u1 h0 h1) (by rw [hM]))
    · exact mO 5 12
  intro B2 a2 W2 (S2 : Sta w 29 [] [(5, ((NN (M)) w.heap.size)), (4, Is (.slice none 0 0)), (1, iV z)] _ _ _)
  refine wp_seq ?_
  refine wp_stmt_seq [.val ((NN (M)) w.heap.size), .val (Is (.int .i64 ((digs (M)).length : Nat))), kT] [] [.inl 2, .inr 0, .inr 1, .inr 2] follows S2 rfl (by kernel_rfl) ?_ ?_
  · refine ⟨⟨⟨trivial, ?_⟩, ?_⟩, ?_⟩
    · exact mS 0 5
    · exact owe_len rfl wA rfl (oO 0 13) nn_len Tryz.underlying22 rfl
    · exact b_eql_int_t wA (oO 1 14) (opnd_const _) (h := hm)
  intro B3 a3 W3 (S3 : Sta w 29 [] [(15, bT), (5, ((NN (M)) w.heap.size)), (4, Is (.slice none 0 0)), (1, iV z)] _ _ _)
  refine wp_cond_true (S3.bool 0 15 rfl) ?_
  refine wp_stmt_seq [.val (Is (.slice none 0 0))] [] [.inl 0, .inr 0, .inr 1, .inr 3] follows S3 rfl (by kernel_rfl) ?_ ?_
  · refine ⟨trivial, ?_⟩
    · exact mC
  intro B4 a4 W4 (S4 : Sta w 29 [] [(4, Is (.slice none 0 0)), (15, bT), (5, ((NN (M)) w.heap.size)), (1, iV z)] _ _ _)
  refine wp_ret ?_
  refine thenR ?_
  exact end_one S4 rfl (res_tmp S4 0 4 rfl)

set_option maxHeartbeats 400000 in
theorem up_w1 (w : World) (p : Option Addr) (n c : Nat) (xs : List Nat) (z : Int) (h : Sl w p n c xs) (hn : n ≤ 1048576) (hz : 0 ≤ z) (hz2 : z ≤ 65536) (P M K R : Nat) (hR : z % 32 = R) (hP : 2 ^ R = P) (hP2 : P < 4294967296) (hM : P * val xs = M) (hK : z / 32 = K) (hm : (((digs M).length : Nat) : Int) ≠ 0) (hl : (digs M).length ≤ 1 + n) :
    Calls Tryz.prog 40 #[.slice p n c, .int .i64 z] w (Gives (NR ((List.replicate (K + (digs M).length) 0).take K ++ digs M ++ (List.replicate (K + (digs M).length) 0).drop (K + (digs M).length))) w) := by
  refine calls_sta (sl := [(0, (Nx p n c xs)), (1, (iV z))]) Tryz.func40 rfl Tryz.ntmps40 (by simp) (args_cons rfl (nx_has h) (args_cons rfl (is_has _) args_nil)) ?_
  intro a0 S0
  refine wp_stmt_seq [.val (Is (.slice none 0 0))] [] [.inl 0, .inr 0, .inr 1] follows S0 rfl (by kernel_rfl) ?_ ?_
  · refine ⟨trivial, ?_⟩
    · exact mC
  intro B1 a1 W1 (S1 : Sta w 29 [] [(4, Is (.slice none 0 0)), (0, Nx p n c xs), (1, iV z)] _ _ _)
  refine wp_stmt_seq [.val (iV z), .val (iV R), .val (Is (.int .u32 P)), .val ((BS P) w.heap.size), .val (Nx p n c xs), .val ((NN (M)) w.heap.size), .val ((NN (M)) w.heap.size)] [] [.inl 6, .inr 0, .inr 2] follows S1 rfl (by kernel_rfl) ?_ ?_
  · repeat' refine And.intro ?_ ?_
    · trivial
    · exact mS 2 1
    · exact owe_bin rfl wA rfl (oO 0 7) (opnd_const _) rfl (fun ρ w h1 h2 => by exact run_rem_int ρ _ _ _ w _ _ _ ⟨hR, hz, by omega, by omega⟩ h1 h2)
    · exact owe_bin rfl wA rfl (opnd_const _) (oO 1 8) rfl (fun ρ w h1 h2 => by exact run_shl1 ρ _ _ _ w R P (by omega) hP h1 h2)
    · exact owe_bs rfl wA rfl (oO 2 9) hP2 rfl
    · exact mS 1 0
    · exact cc2 wA (qO 3 10 rfl) (qO 4 11 rfl) (fresh_nn _) (fun w u0 u1 h0 h1 => Gives.cast ((fun w u v h1 h2 => g_mul (by omega) w u v (bs_nv _ _ h1) ((nx_nv (Nat.le_refl _)) _ _ h2)) w u0 u1 h0 h1) (by rw [hM]))
    · exact mO 5 12
  intro B2 a2 W2 (S2 : Sta w 29 [] [(5, ((NN (M)) w.heap.size)), (4, Is (.slice none 0 0)), (1, iV z)] _ _ _)
  refine wp_seq ?_
  refine wp_stmt_seq [.val ((NN (M)) w.heap.size), .val (Is (.int .i64 ((digs (M)).length : Nat))), kF] [] [.inl 2, .inr 0, .inr 1, .inr 2] follows S2 rfl (by kernel_rfl) ?_ ?_
  · refine ⟨⟨⟨trivial, ?_⟩, ?_⟩, ?_⟩
    · exact mS 0 5
    · exact owe_len rfl wA rfl (oO 0 13) nn_len Tryz.underlying22 rfl
    · exact b_eql_int_f wA (oO 1 14) (opnd_const _) (h := hm)
  intro B3 a3 W3 (S3 : Sta w 29 [] [(15, bF), (5, ((NN (M)) w.heap.size)), (4, Is (.slice none 0 0)), (1, iV z)] _ _ _)
  refine wp_cond_false (S3.bool 0 15 rfl) ?_
  refine wp_skip ?_
  refine thenN ?_
  refine wp_stmt_seq [.val (iV z), .val (iV K), .val ((NN (M)) w.heap.size), .val (Is (.int .i64 ((digs (M)).length : Nat))), .val (iV (K + (digs M).length : Nat)), .new (.row 64 1 (K + (digs M).length) (EqL (U (List.replicate (K + (digs M).length) 0)))), .ref 5] [.inl 6] [.inr 0, .inr 1, .inr 2, .inr 3] follows S3 rfl (by kernel_rfl) ?_ ?_
  · repeat' refine And.intro ?_ ?_
    · trivial
    · exact mS 3 1
    · exact owe_bin rfl wA rfl (oO 0 16) (opnd_const _) rfl (fun ρ w h1 h2 => by exact run_quo_int ρ _ _ _ w _ _ _ ⟨hK, hz, by omega, by omega⟩ h1 h2)
    · exact mS 1 5
    · exact owe_len rfl wA rfl (oO 2 18) nn_len Tryz.underlying22 rfl
    · exact b_add_int wA (oO 1 17) (oO 3 19)
    · exact owe_make rfl wA rfl (oO 4 20) (by omega) rfl
    · exact owe_ref 5 rfl wA (Or.inr rfl) (by kernel_rfl) rfl rfl
  intro B4 a4 W4 (S4 : Sta w 29 [(6, (.row 64 1 (K + (digs M).length) (EqL (U (List.replicate (K + (digs M).length) 0)))))] [(15, bF), (5, ((NN (M)) w.heap.size)), (4, Is (.slice none 0 0)), (1, iV z)] _ _ _)
  refine wp_stmt_seq [.val (Is (a4.eval (.tmp 6))), .val (iV z), .val (iV K), .val (Tail a4 6 (K + (digs M).length) K), .val ((NN (M)) w.heap.size), .put (.inl 6) (.row 64 1 (K + (digs M).length) (EqL (U ((List.replicate (K + (digs M).length) 0).take K ++ digs M ++ (List.replicate (K + (digs M).length) 0).drop (K + (digs M).length)))))] [.inr 0] [.inr 0, .inr 1, .inr 2, .inr 3] follows S4 rfl (by kernel_rfl) ?_ ?_
  · refine ⟨⟨⟨⟨⟨⟨trivial, ?_⟩, ?_⟩, ?_⟩, ?_⟩, ?_⟩, ?_⟩
    · exact owe_same rfl wA (Or.inl rfl) (by kernel_rfl) rfl
    · exact mS 3 1
    · exact owe_bin rfl wA rfl (oO 1 23) (opnd_const _) rfl (fun ρ w h1 h2 => by exact run_quo_int ρ _ _ _ w _ _ _ ⟨hK, hz, by omega, by omega⟩ h1 h2)
    · exact owe_tail rfl wA rfl (oO 0 22) (k := 0) rfl (by kernel_rfl) (oO 2 24) (by omega) rfl
    · exact mS 1 5
    · exact owe_copy (kk := 0) rfl wA rfl (oO 3 25) (k := 0) rfl (by kernel_rfl) (oO 4 26) nn_sl (by omega) (by omega) rfl
  intro B5 a5 W5 (S5 : Sta w 29 [(6, (.row 64 1 (K + (digs M).length) (EqL (U ((List.replicate (K + (digs M).length) 0).take K ++ digs M ++ (List.replicate (K + (digs M).length) 0).drop (K + (digs M).length))))))] [(15, bF), (5, ((NN (M)) w.heap.size)), (4, Is (.slice none 0 0)), (1, iV z)] _ _ _)
  obtain ⟨B6, S6⟩ : ∃ Bq, Sta w 29 [] [(6, ((NR ((List.replicate (K + (digs M).length) 0).take K ++ digs M ++ (List.replicate (K + (digs M).length) 0).drop (K + (digs M).length))) w.heap.size)), (15, bF), (5, ((NN (M)) w.heap.size)), (4, Is (.slice none 0 0)), (1, iV z)] Bq a5 W5 := ⟨_, S5.freeze 0 rfl (by simp) (row_nr up_ok)⟩
  obtain ⟨a6, W6, e1, e2⟩ : ∃ a W, a5 = a ∧ W5 = W := ⟨_, _, rfl, rfl⟩
  rw [e1, e2] at S6 ⊢
  clear e1 e2
  refine wp_stmt_seq [.val ((NR ((List.replicate (K + (digs M).length) 0).take K ++ digs M ++ (List.replicate (K + (digs M).length) 0).drop (K + (digs M).length))) w.heap.size), .val ((NR ((List.replicate (K + (digs M).length) 0).take K ++ digs M ++ (List.replicate (K + (digs M).length) 0).drop (K + (digs M).length))) w.heap.size)] [] [.inl 1, .inr 0, .inr 1, .inr 2, .inr 4] follows S6 rfl (by kernel_rfl) ?_ ?_
  · refine ⟨⟨trivial, ?_⟩, ?_⟩
    · exact mS 0 6
    · exact mO 0 28
  intro B7 a7 W7 (S7 : Sta w 29 [] [(4, ((NR ((List.replicate (K + (digs M).length) 0).take K ++ digs M ++ (List.replicate (K + (digs M).length) 0).drop (K + (digs M).length))) w.heap.size)), (6, ((NR ((List.replicate (K + (digs M).length) 0).take K ++ digs M ++ (List.replicate (K + (digs M).length) 0).drop (K + (digs M).length))) w.heap.size)), (15, bF), (5, ((NN (M)) w.heap.size)), (1, iV z)] _ _ _)
  refine wp_ret ?_
  exact end_one S7 rfl (res_tmp S7 0 4 rfl)

theorem g_up {x k : Nat} {z : Int} (hk : k ≤ 1048576) (hz : 0 ≤ z) (hz2 : z ≤ 65536) : ∀ w u v, Nv x k u w → Is (.int .i64 z) v w → Calls Tryz.prog 40 #[u, v] w (Gives (NN (x * 2 ^ z.toNat)) w) := by
  rintro w u v ⟨p, n, c, xs, rfl, h, rfl, hn⟩ e
  obtain rfl : v = _ := e
  obtain ⟨Z, rfl⟩ : ∃ Z : Nat, z = (Z : Int) := ⟨z.toNat, by omega⟩
  rw [Int.toNat_natCast]
  have hr : Z % 32 < 32 := Nat.mod_lt _ (by decide)
  have hP : 2 ^ (Z % 32) < 4294967296 := Nat.lt_of_lt_of_le (Nat.pow_lt_pow_right (by omega) hr) (by decide)
  have hx : val xs * 2 ^ Z = 2 ^ (Z % 32) * val xs * 2 ^ (32 * (Z / 32)) := by
    rw [Nat.mul_comm (2 ^ (Z % 32)), Nat.mul_assoc, ← Nat.pow_add]
    congr 2
    omega
  by_cases hm : 2 ^ (Z % 32) * val xs = 0
  · have := up_w0 w p n c xs Z h (by omega) hz hz2 _ _ (Z / 32) (Z % 32) (by omega) rfl hP rfl (by omega) (by rw [hm]; rfl)
    rw [hx, hm, Nat.zero_mul]
    refine this.mono ?_
    rintro e w' ⟨v, rfl, hb, h⟩
    exact ⟨v, rfl, hb, zero_nn _ _ h⟩
  · have hl : (digs (2 ^ (Z % 32) * val xs)).length ≠ 0 := fun e => hm ((digs_length_zero _).1 e)
    have := up_w1 w p n c xs Z h (by omega) hz hz2 _ _ (Z / 32) (Z % 32) (by omega) rfl hP rfl (by omega) (by omega) (digs_mul_len (digs_length_le (by omega)) h.dl)
    rw [up_list, up_digs hm, ← hx] at this
    exact this

set_option maxHeartbeats 400000 in
theorem zsh_w2 (w : World) (s : Bool) (p : Option Addr) (n c : Nat) (xs : List Nat) (z : Int) (h : Sl w p n c xs) (A : Int) (eA : sg s (val xs) = A) (hn : n ≤ 1048576) (hz0 : -9223372036854775808 ≤ z) (hz9 : z ≤ 9223372036854775807) (hz : 0 ≤ z) (hz2 : z ≤ 65536) :
    Calls Tryz.prog 19 #[.agg #[.bool s, .slice p n c], .int .i64 z] w (Gives (TWO (ZN (sg s (val xs * 2 ^ z.toNat))) (IS (.int .i64 0))) w) := by
  refine calls_sta (sl := [(0, (Zx s p n c xs)), (1, (iV z))]) Tryz.func19 rfl Tryz.ntmps19 (by simp) (args_cons rfl (zx_has h) (args_cons rfl (is_has _) args_nil)) ?_
  intro a0 S0
  refine wp_stmt_seq [.new (.box 24 (Zx s p n c xs)), .new (.box 24 zI), .val (iV 0)] [.inl 0, .inl 1] [.inl 2, .inr 1] follows S0 rfl (by kernel_rfl) ?_ ?_
  · refine ⟨⟨⟨trivial, ?_⟩, ?_⟩, ?_⟩
    · exact owe_box rfl wA rfl (oS 0 0) rfl (fun ρ w h => box_int shp_zx ρ _ _ w h)
    · exact owe_new rfl wA rfl rfl (fun ρ w => alloc_int ρ _ w)
    · exact mC
  intro B1 a1 W1 (S1 : Sta w 47 [(2, (.box 24 (Zx s p n c xs))), (4, (.box 24 zI))] [(5, iV 0), (1, iV z)] _ _ _)
  refine wp_seq ?_
  refine wp_block ?_
  refine wp_stmt_seq [.val (iV z), kF, kF, .val (iV z), kF, kF, kF] [.inr 0, .inr 1] [.inl 6, .inr 0, .inr 1] follows S1 rfl (by kernel_rfl) ?_ ?_
  · repeat' refine And.intro ?_ ?_
    · trivial
    · exact mS 1 1
    · exact b_gtr_int_f wA (oO 0 9) (opnd_const _)
    · exact mO 1 10
    · exact mW (wI 2 11) (oS 1 1)
    · exact b_lss_int_f (wI 2 11) (oO 3 12) (opnd_const _)
    · exact pF wA (oO 2 11) (oO 4 13)
    · exact mO 5 14
  intro B2 a2 W2 (S2 : Sta w 47 [(2, (.box 24 (Zx s p n c xs))), (4, (.box 24 zI))] [(8, bF), (5, iV 0), (1, iV z)] _ _ _)
  refine wp_cond_false (S2.bool 0 8 rfl) ?_
  refine wp_stmt_seq [.val (iV z), kT, kT] [.inr 0, .inr 1] [.inl 2, .inr 0, .inr 1, .inr 2] follows S2 rfl (by kernel_rfl) ?_ ?_
  · refine ⟨⟨⟨trivial, ?_⟩, ?_⟩, ?_⟩
    · exact mS 2 1
    · exact b_geq_int_t wA (oO 0 17) (opnd_const _) (h := hz)
    · exact mO 1 18
  intro B3 a3 W3 (S3 : Sta w 47 [(2, (.box 24 (Zx s p n c xs))), (4, (.box 24 zI))] [(16, bT), (8, bF), (5, iV 0), (1, iV z)] _ _ _)
  refine wp_cond_true (S3.bool 0 16 rfl) ?_
  refine wp_stmt_seq [.val (Part a3 2 0), .val (Is (.bool s)), .val (Part a3 2 1), .val (Nx p n c xs), .val (iV z), .val ((NN (val xs * 2 ^ z.toNat)) w.heap.size), .val ((ZN (sg s (val xs * 2 ^ z.toNat))) w.heap.size), .put (.inl 4) (.box 24 ((ZN (sg s (val xs * 2 ^ z.toNat))) w.heap.size)), .val (iV 0)] [.inr 0, .inr 1] [.inl 8, .inr 0, .inr 1, .inr 3] follows S3 rfl (by kernel_rfl) ?_ ?_
  · repeat' refine And.intro ?_ ?_
    · trivial
    · exact owe_part rfl wA rfl (k := 0) rfl (by kernel_rfl) rfl (fun ρ w b h => part_int0 ρ _ _ w b 0 h)
    · exact owe_pload rfl wA rfl (oO 0 19) (k := 0) rfl (by kernel_rfl) rfl (fun ρ w b u h1 h2 h3 => pload_neg zx_neg ρ _ _ w b u h1 h2 h3)
    · exact owe_part rfl wA rfl (k := 0) rfl (by kernel_rfl) rfl (fun ρ w b h => part_int1 ρ _ _ w b 0 h)
    · exact owe_pload rfl wA rfl (oO 2 21) (k := 0) rfl (by kernel_rfl) rfl (fun ρ w b u h1 h2 h3 => pload_mag zx_mag ρ _ _ w b u h1 h2 h3)
    · exact mS 3 1
    · exact cc2 wA (qO 3 22 rfl) (qO 4 23 rfl) (fresh_nn _) (fun w u v h1 h2 => g_up (by omega) hz hz2 w u v ((nx_nv (Nat.le_refl _)) _ _ h1) h2)
    · exact owe_callF2 rfl wA rfl (oO 1 20) (oO 5 24) rfl (fun args w => by go_simp) g_signed
    · exact owe_set rfl wA rfl (k := 1) rfl (by kernel_rfl) (oO 6 25) (stores_of strct_int shp_z0 shp_zn) rfl
    · exact mC
  intro B4 a4 W4 (S4 : Sta w 47 [(2, (.box 24 (Zx s p n c xs))), (4, (.box 24 ((ZN (sg s (val xs * 2 ^ z.toNat))) w.heap.size)))] [(5, iV 0), (16, bT), (8, bF), (1, iV z)] _ _ _)
  refine wp_ret ?_
  refine inBlkR ?_
  refine thenR ?_
  exact end_two S4 rfl (res_cell S4 1 4 rfl strct_int shp_zn) (res_tmp S4 0 5 rfl)

theorem g_zshift0 {A z : Int} {k : Nat} (hk : k ≤ 1048576) (hz : 0 ≤ z) (hz2 : z ≤ 65536) : ∀ w u v, Zv A k u w → Is (.int .i64 z) v w → Calls Tryz.prog 19 #[u, v] w (Gives (TWO (ZN (A * 2 ^ z.toNat)) (IS (.int .i64 0))) w) := by
  rintro w u v ⟨s, p, n, c, xs, rfl, h, rfl, hn⟩ e
  obtain rfl : v = _ := e
  have e : sg s (val xs) * 2 ^ z.toNat = sg s (val xs * 2 ^ z.toNat) := by cases s <;> simp [sg, Int.neg_mul]
  rw [e]
  exact zsh_w2 w s p n c xs z h _ rfl (by omega) (by omega) (by omega) hz (by omega)
end Go.Proofs.YtgalppimdmjdcabGreatDoor
