import Derived.Test.YtaplbadcpbollaaGreatDoorSetY
import Derived.Test.YtaplbadcpbollaaGreatDoorPower
import Derived.Test.YtaplbadcpbollaaGreatDoorRReadMath
import Derived.Test.YtaplbadcpbollaaGreatDoorTxD
import Derived.Test.YtaplbadcpbollaaGreatDoorTxE
import Derived.Test.YtaplbadcpbollaaGreatDoorJoins
/-
  nat.Pow, whole.
-/
namespace Go.Proofs.YtaplbadcpbollaaGreatDoor
open Go Go.RowKit Nt
set_option linter.unusedSimpArgs false
set_option linter.unusedVariables false
set_option maxRecDepth 20000
set_option maxHeartbeats 400000 in
theorem pow_w0 (w : World) (p : Option Addr) (n c : Nat) (xs : List Nat) (z : Int) (h : Sl w p n c xs) (hn : n ≤ 1048576) (hz : z = 0) :
    Calls Tryz.prog 53 #[.slice p n c, .int .i64 z] w (Gives (TWO (BS 1) (IS (.int .i64 0))) w) := by
  have dx : (digs (val xs)).length ≤ n := h.dl
  refine calls_sta (sl := [(0, (Nx p n c xs)), (1, (iV z))]) Tryz.func53 rfl Tryz.ntmps53 (by simp) (args_cons rfl (nx_has h) (args_cons rfl (is_has _) args_nil)) ?_
  intro a0 S0
  refine wp_stmt_seq [.val (Is (.slice none 0 0)), .val (iV 0)] [] [.inl 0, .inl 1, .inr 0, .inr 1] follows S0 rfl (by kernel_rfl) ?_ ?_
  · refine ⟨⟨trivial, ?_⟩, ?_⟩
    · exact mC
    · exact mC
  intro B1 a1 W1 (S1 : Sta w 27 [] [(4, Is (.slice none 0 0)), (5, iV 0), (0, Nx p n c xs), (1, iV z)] _ _ _)
  refine wp_seq ?_
  refine wp_stmt_seq [.val (iV z), kF] [] [.inl 1, .inr 0, .inr 1, .inr 2, .inr 3] follows S1 rfl (by kernel_rfl) ?_ ?_
  · refine ⟨⟨trivial, ?_⟩, ?_⟩
    · exact mS 3 1
    · exact b_lss_int_f wA (oO 0 7) (opnd_const _)
  intro B2 a2 W2 (S2 : Sta w 27 [] [(8, bF), (4, Is (.slice none 0 0)), (5, iV 0), (0, Nx p n c xs), (1, iV z)] _ _ _)
  refine wp_cond_false (S2.bool 0 8 rfl) ?_
  refine wp_skip ?_
  refine thenN ?_
  refine wp_stmt_seq [.val (Nx p n c xs), .val (Nx p (digs (val xs)).length c (digs (val xs))), .val (Nx p (digs (val xs)).length c (digs (val xs)))] [] [.inl 2, .inr 0, .inr 1, .inr 2, .inr 4] follows S2 rfl (by kernel_rfl) ?_ ?_
  · refine ⟨⟨⟨trivial, ?_⟩, ?_⟩, ?_⟩
    · exact mS 3 0
    · exact owe_callF1 rfl wA rfl (oO 0 9) rfl (fun args w => by go_simp) g_trim
    · exact mO 1 10
  intro B3 a3 W3 (S3 : Sta w 27 [] [(0, Nx p (digs (val xs)).length c (digs (val xs))), (8, bF), (4, Is (.slice none 0 0)), (5, iV 0), (1, iV z)] _ _ _)
  refine wp_seq ?_
  refine wp_stmt_seq [.val (iV z), kT] [] [.inl 1, .inr 0, .inr 1, .inr 2, .inr 3, .inr 4] follows S3 rfl (by kernel_rfl) ?_ ?_
  · refine ⟨⟨trivial, ?_⟩, ?_⟩
    · exact mS 4 1
    · exact b_eql_int_t wA (oO 0 11) (opnd_const _) (h := hz)
  intro B4 a4 W4 (S4 : Sta w 27 [] [(12, bT), (0, Nx p (digs (val xs)).length c (digs (val xs))), (8, bF), (4, Is (.slice none 0 0)), (5, iV 0), (1, iV z)] _ _ _)
  refine wp_cond_true (S4.bool 0 12 rfl) ?_
  refine wp_stmt_seq [.val ((BS 1) w.heap.size), .val ((BS 1) w.heap.size), .val (iV 0)] [] [.inl 1, .inl 2, .inr 0, .inr 1, .inr 2, .inr 5] follows S4 rfl (by kernel_rfl) ?_ ?_
  · refine ⟨⟨⟨trivial, ?_⟩, ?_⟩, ?_⟩
    · exact owe_bs rfl wA rfl (opnd_const _) (by decide) rfl
    · exact mO 0 13
    · exact mC
  intro B5 a5 W5 (S5 : Sta w 27 [] [(4, ((BS 1) w.heap.size)), (5, iV 0), (12, bT), (0, Nx p (digs (val xs)).length c (digs (val xs))), (8, bF), (1, iV z)] _ _ _)
  refine wp_ret ?_
  refine thenR ?_
  exact end_two S5 rfl (res_tmp S5 0 4 rfl) (res_tmp S5 1 5 rfl)

set_option maxHeartbeats 400000 in
theorem pow_w1 (w : World) (p : Option Addr) (n c : Nat) (xs : List Nat) (z : Int) (h : Sl w p n c xs) (hn : n ≤ 1048576) (hz : 0 < z) (hb : ((Go.bitLen (val xs) : Nat) : Int) ≤ 1) :
    Calls Tryz.prog 53 #[.slice p n c, .int .i64 z] w (Gives (TWO (NN (val xs)) (IS (.int .i64 0))) w) := by
  have dx : (digs (val xs)).length ≤ n := h.dl
  refine calls_sta (sl := [(0, (Nx p n c xs)), (1, (iV z))]) Tryz.func53 rfl Tryz.ntmps53 (by simp) (args_cons rfl (nx_has h) (args_cons rfl (is_has _) args_nil)) ?_
  intro a0 S0
  refine wp_stmt_seq [.val (Is (.slice none 0 0)), .val (iV 0)] [] [.inl 0, .inl 1, .inr 0, .inr 1] follows S0 rfl (by kernel_rfl) ?_ ?_
  · refine ⟨⟨trivial, ?_⟩, ?_⟩
    · exact mC
    · exact mC
  intro B1 a1 W1 (S1 : Sta w 27 [] [(4, Is (.slice none 0 0)), (5, iV 0), (0, Nx p n c xs), (1, iV z)] _ _ _)
  refine wp_seq ?_
  refine wp_stmt_seq [.val (iV z), kF] [] [.inl 1, .inr 0, .inr 1, .inr 2, .inr 3] follows S1 rfl (by kernel_rfl) ?_ ?_
  · refine ⟨⟨trivial, ?_⟩, ?_⟩
    · exact mS 3 1
    · exact b_lss_int_f wA (oO 0 7) (opnd_const _)
  intro B2 a2 W2 (S2 : Sta w 27 [] [(8, bF), (4, Is (.slice none 0 0)), (5, iV 0), (0, Nx p n c xs), (1, iV z)] _ _ _)
  refine wp_cond_false (S2.bool 0 8 rfl) ?_
  refine wp_skip ?_
  refine thenN ?_
  refine wp_stmt_seq [.val (Nx p n c xs), .val (Nx p (digs (val xs)).length c (digs (val xs))), .val (Nx p (digs (val xs)).length c (digs (val xs)))] [] [.inl 2, .inr 0, .inr 1, .inr 2, .inr 4] follows S2 rfl (by kernel_rfl) ?_ ?_
  · refine ⟨⟨⟨trivial, ?_⟩, ?_⟩, ?_⟩
    · exact mS 3 0
    · exact owe_callF1 rfl wA rfl (oO 0 9) rfl (fun args w => by go_simp) g_trim
    · exact mO 1 10
  intro B3 a3 W3 (S3 : Sta w 27 [] [(0, Nx p (digs (val xs)).length c (digs (val xs))), (8, bF), (4, Is (.slice none 0 0)), (5, iV 0), (1, iV z)] _ _ _)
  refine wp_seq ?_
  refine wp_stmt_seq [.val (iV z), kF] [] [.inl 1, .inr 0, .inr 1, .inr 2, .inr 3, .inr 4] follows S3 rfl (by kernel_rfl) ?_ ?_
  · refine ⟨⟨trivial, ?_⟩, ?_⟩
    · exact mS 4 1
    · exact b_eql_int_f wA (oO 0 11) (opnd_const _)
  intro B4 a4 W4 (S4 : Sta w 27 [] [(12, bF), (0, Nx p (digs (val xs)).length c (digs (val xs))), (8, bF), (4, Is (.slice none 0 0)), (5, iV 0), (1, iV z)] _ _ _)
  refine wp_cond_false (S4.bool 0 12 rfl) ?_
  refine wp_skip ?_
  refine thenN ?_
  refine wp_stmt_seq [.val (Nx p (digs (val xs)).length c (digs (val xs))), .val (iV (Go.bitLen (val xs) : Nat)), .val (iV (Go.bitLen (val xs) : Nat))] [] [.inl 2, .inr 0, .inr 1, .inr 2, .inr 3, .inr 4, .inr 5] follows S4 rfl (by kernel_rfl) ?_ ?_
  · refine ⟨⟨⟨trivial, ?_⟩, ?_⟩, ?_⟩
    · exact mS 1 0
    · exact cc1 wA (qO 0 14 rfl) (fresh_is _) (fun w u h1 => g_bits (by omega) w u (digs_nx dx _ _ h1))
    · exact mO 1 15
  intro B5 a5 W5 (S5 : Sta w 27 [] [(6, iV (Go.bitLen (val xs) : Nat)), (12, bF), (0, Nx p (digs (val xs)).length c (digs (val xs))), (8, bF), (4, Is (.slice none 0 0)), (5, iV 0), (1, iV z)] _ _ _)
  refine wp_seq ?_
  refine wp_stmt_seq [.val (iV (Go.bitLen (val xs) : Nat)), kT] [] [.inl 1, .inr 0, .inr 1, .inr 2, .inr 3, .inr 4, .inr 5, .inr 6] follows S5 rfl (by kernel_rfl) ?_ ?_
  · refine ⟨⟨trivial, ?_⟩, ?_⟩
    · exact mS 0 6
    · exact b_leq_int_t wA (oO 0 16) (opnd_const _) (h := hb)
  intro B6 a6 W6 (S6 : Sta w 27 [] [(17, bT), (6, iV (Go.bitLen (val xs) : Nat)), (12, bF), (0, Nx p (digs (val xs)).length c (digs (val xs))), (8, bF), (4, Is (.slice none 0 0)), (5, iV 0), (1, iV z)] _ _ _)
  refine wp_cond_true (S6.bool 0 17 rfl) ?_
  refine wp_stmt_seq [.val (Nx p (digs (val xs)).length c (digs (val xs))), .val ((NN (val xs)) w.heap.size), .val ((NN (val xs)) w.heap.size), .val (iV 0)] [] [.inl 2, .inl 3, .inr 0, .inr 1, .inr 2, .inr 3, .inr 4, .inr 7] follows S6 rfl (by kernel_rfl) ?_ ?_
  · refine ⟨⟨⟨⟨trivial, ?_⟩, ?_⟩, ?_⟩, ?_⟩
    · exact mS 3 0
    · exact cc1 wA (qO 0 18 rfl) (fresh_nn _) (fun w u h1 => g_norm (k := n) (by omega) w u (digs_nx dx _ _ h1))
    · exact mO 1 19
    · exact mC
  intro B7 a7 W7 (S7 : Sta w 27 [] [(4, ((NN (val xs)) w.heap.size)), (5, iV 0), (17, bT), (6, iV (Go.bitLen (val xs) : Nat)), (12, bF), (0, Nx p (digs (val xs)).length c (digs (val xs))), (8, bF), (1, iV z)] _ _ _)
  refine wp_ret ?_
  refine thenR ?_
  exact end_two S7 rfl (res_tmp S7 0 4 rfl) (res_tmp S7 1 5 rfl)

set_option maxHeartbeats 400000 in
theorem pow_w2 (w : World) (p : Option Addr) (n c : Nat) (xs : List Nat) (z : Int) (h : Sl w p n c xs) (hn : n ≤ 1048576) (hz : 0 < z) (hb1 : (1 : Int) < ((Go.bitLen (val xs) : Nat) : Int)) (hz1 : z.toNat ≤ 1048576) (hb : Go.bitLen (val xs) * z.toNat ≤ 1048576) (hq : z ≤ 1048576 / ((Go.bitLen (val xs) : Nat) : Int)) :
    Calls Tryz.prog 53 #[.slice p n c, .int .i64 z] w (Gives (TWO (NN (val xs ^ z.toNat)) (IS (.int .i64 0))) w) := by
  have dx : (digs (val xs)).length ≤ n := h.dl
  refine calls_sta (sl := [(0, (Nx p n c xs)), (1, (iV z))]) Tryz.func53 rfl Tryz.ntmps53 (by simp) (args_cons rfl (nx_has h) (args_cons rfl (is_has _) args_nil)) ?_
  intro a0 S0
  refine wp_stmt_seq [.val (Is (.slice none 0 0)), .val (iV 0)] [] [.inl 0, .inl 1, .inr 0, .inr 1] follows S0 rfl (by kernel_rfl) ?_ ?_
  · refine ⟨⟨trivial, ?_⟩, ?_⟩
    · exact mC
    · exact mC
  intro B1 a1 W1 (S1 : Sta w 27 [] [(4, Is (.slice none 0 0)), (5, iV 0), (0, Nx p n c xs), (1, iV z)] _ _ _)
  refine wp_seq ?_
  refine wp_stmt_seq [.val (iV z), kF] [] [.inl 1, .inr 0, .inr 1, .inr 2, .inr 3] follows S1 rfl (by kernel_rfl) ?_ ?_
  · refine ⟨⟨trivial, ?_⟩, ?_⟩
    · exact mS 3 1
    · exact b_lss_int_f wA (oO 0 7) (opnd_const _)
  intro B2 a2 W2 (S2 : Sta w 27 [] [(8, bF), (4, Is (.slice none 0 0)), (5, iV 0), (0, Nx p n c xs), (1, iV z)] _ _ _)
  refine wp_cond_false (S2.bool 0 8 rfl) ?_
  refine wp_skip ?_
  refine thenN ?_
  refine wp_stmt_seq [.val (Nx p n c xs), .val (Nx p (digs (val xs)).length c (digs (val xs))), .val (Nx p (digs (val xs)).length c (digs (val xs)))] [] [.inl 2, .inr 0, .inr 1, .inr 2, .inr 4] follows S2 rfl (by kernel_rfl) ?_ ?_
  · refine ⟨⟨⟨trivial, ?_⟩, ?_⟩, ?_⟩
    · exact mS 3 0
    · exact owe_callF1 rfl wA rfl (oO 0 9) rfl (fun args w => by go_simp) g_trim
    · exact mO 1 10
  intro B3 a3 W3 (S3 : Sta w 27 [] [(0, Nx p (digs (val xs)).length c (digs (val xs))), (8, bF), (4, Is (.slice none 0 0)), (5, iV 0), (1, iV z)] _ _ _)
  refine wp_seq ?_
  refine wp_stmt_seq [.val (iV z), kF] [] [.inl 1, .inr 0, .inr 1, .inr 2, .inr 3, .inr 4] follows S3 rfl (by kernel_rfl) ?_ ?_
  · refine ⟨⟨trivial, ?_⟩, ?_⟩
    · exact mS 4 1
    · exact b_eql_int_f wA (oO 0 11) (opnd_const _)
  intro B4 a4 W4 (S4 : Sta w 27 [] [(12, bF), (0, Nx p (digs (val xs)).length c (digs (val xs))), (8, bF), (4, Is (.slice none 0 0)), (5, iV 0), (1, iV z)] _ _ _)
  refine wp_cond_false (S4.bool 0 12 rfl) ?_
  refine wp_skip ?_
  refine thenN ?_
  refine wp_stmt_seq [.val (Nx p (digs (val xs)).length c (digs (val xs))), .val (iV (Go.bitLen (val xs) : Nat)), .val (iV (Go.bitLen (val xs) : Nat))] [] [.inl 2, .inr 0, .inr 1, .inr 2, .inr 3, .inr 4, .inr 5] follows S4 rfl (by kernel_rfl) ?_ ?_
  · refine ⟨⟨⟨trivial, ?_⟩, ?_⟩, ?_⟩
    · exact mS 1 0
    · exact cc1 wA (qO 0 14 rfl) (fresh_is _) (fun w u h1 => g_bits (by omega) w u (digs_nx dx _ _ h1))
    · exact mO 1 15
  intro B5 a5 W5 (S5 : Sta w 27 [] [(6, iV (Go.bitLen (val xs) : Nat)), (12, bF), (0, Nx p (digs (val xs)).length c (digs (val xs))), (8, bF), (4, Is (.slice none 0 0)), (5, iV 0), (1, iV z)] _ _ _)
  refine wp_seq ?_
  refine wp_stmt_seq [.val (iV (Go.bitLen (val xs) : Nat)), kF] [] [.inl 1, .inr 0, .inr 1, .inr 2, .inr 3, .inr 4, .inr 5, .inr 6] follows S5 rfl (by kernel_rfl) ?_ ?_
  · refine ⟨⟨trivial, ?_⟩, ?_⟩
    · exact mS 0 6
    · exact b_leq_int_f wA (oO 0 16) (opnd_const _) (h := hb1)
  intro B6 a6 W6 (S6 : Sta w 27 [] [(17, bF), (6, iV (Go.bitLen (val xs) : Nat)), (12, bF), (0, Nx p (digs (val xs)).length c (digs (val xs))), (8, bF), (4, Is (.slice none 0 0)), (5, iV 0), (1, iV z)] _ _ _)
  refine wp_cond_false (S6.bool 0 17 rfl) ?_
  refine wp_skip ?_
  refine thenN ?_
  refine wp_seq ?_
  refine wp_stmt_seq [.val (iV z), .val (iV (Go.bitLen (val xs) : Nat)), .val (Is (.int .i64 (1048576 / ((Go.bitLen (val xs) : Nat) : Int)))), kF] [] [.inl 3, .inr 0, .inr 1, .inr 2, .inr 3, .inr 4, .inr 5, .inr 6, .inr 7] follows S6 rfl (by kernel_rfl) ?_ ?_
  · refine ⟨⟨⟨⟨trivial, ?_⟩, ?_⟩, ?_⟩, ?_⟩
    · exact mS 7 1
    · exact mS 1 6
    · exact owe_bin rfl wA rfl (opnd_const _) (oO 1 21) rfl (fun ρ w h1 h2 => by exact run_quo_int ρ _ _ _ w _ _ _ ⟨rfl, by omega, by omega, by omega⟩ h1 h2)
    · exact b_gtr_int_f wA (oO 0 20) (oO 2 22) (h := hq)
  intro B7 a7 W7 (S7 : Sta w 27 [] [(23, bF), (17, bF), (6, iV (Go.bitLen (val xs) : Nat)), (12, bF), (0, Nx p (digs (val xs)).length c (digs (val xs))), (8, bF), (4, Is (.slice none 0 0)), (5, iV 0), (1, iV z)] _ _ _)
  refine wp_cond_false (S7.bool 0 23 rfl) ?_
  refine wp_skip ?_
  refine thenN ?_
  refine wp_stmt_seq [.val (Nx p (digs (val xs)).length c (digs (val xs))), .val (iV z), .val ((NN (val xs ^ z.toNat)) w.heap.size), .val ((NN (val xs ^ z.toNat)) w.heap.size), .val (iV 0)] [] [.inl 3, .inl 4, .inr 0, .inr 1, .inr 2, .inr 3, .inr 4, .inr 5, .inr 8] follows S7 rfl (by kernel_rfl) ?_ ?_
  · refine ⟨⟨⟨⟨⟨trivial, ?_⟩, ?_⟩, ?_⟩, ?_⟩, ?_⟩
    · exact mS 4 0
    · exact mS 8 1
    · exact cc2 wA (qO 0 24 rfl) (qO 1 25 rfl) (fresh_nn _) (fun w u v h1 h2 => g_power (k := n) (z := z.toNat) (by omega) (by omega) (by omega) hb w u v (digs_nx dx _ _ h1) (by rw [show ((z.toNat : Nat) : Int) = z from by omega]; exact h2))
    · exact mO 2 26
    · exact mC
  intro B8 a8 W8 (S8 : Sta w 27 [] [(4, ((NN (val xs ^ z.toNat)) w.heap.size)), (5, iV 0), (23, bF), (17, bF), (6, iV (Go.bitLen (val xs) : Nat)), (12, bF), (0, Nx p (digs (val xs)).length c (digs (val xs))), (8, bF), (1, iV z)] _ _ _)
  refine wp_ret ?_
  exact end_two S8 rfl (res_tmp S8 0 4 rfl) (res_tmp S8 1 5 rfl)


theorem g_pow {x k : Nat} {z : Int} (hk : k ≤ 1048576) (hz : 0 ≤ z) (hb : z = 0 ∨ Go.bitLen x ≤ 1 ∨ (z ≤ 1048576 / ((Go.bitLen x : Nat) : Int))) : ∀ w u v, Nv x k u w → Is (.int .i64 z) v w → Calls Tryz.prog 53 #[u, v] w (Gives (TWO (NN (x ^ z.toNat)) (IS (.int .i64 0))) w) := by
  rintro w u v ⟨p, n, c, xs, rfl, h, rfl, hn⟩ e
  obtain rfl : v = _ := e
  by_cases h0 : z = 0
  · rw [h0]
    exact Gives.two (pow_w0 w p n c xs 0 h (by omega) rfl) nn_one
  · by_cases h1 : Go.bitLen (val xs) ≤ 1
    · have h2 := bl_le_one.1 h1
      have h3 : val xs ^ z.toNat = val xs := by
        rcases (by omega : val xs = 0 ∨ val xs = 1) with e | e
        · rw [e]; exact Nat.zero_pow (by omega)
        · rw [e]; exact Nat.one_pow _
      rw [h3]
      exact pow_w1 w p n c xs z h (by omega) (by omega) (by omega)
    · have hq : z ≤ 1048576 / ((Go.bitLen (val xs) : Nat) : Int) := by
        rcases hb with hb | hb | hb
        · exact absurd hb h0
        · exact absurd hb h1
        · exact hb
      have h5 : z * ((Go.bitLen (val xs) : Nat) : Int) ≤ 1048576 := (Int.le_ediv_iff_mul_le (by omega)).1 hq
      obtain ⟨b, hb'⟩ : ∃ b, Go.bitLen (val xs) = b := ⟨_, rfl⟩
      obtain ⟨Z, rfl⟩ : ∃ Z : Nat, z = (Z : Int) := ⟨z.toNat, by omega⟩
      rw [hb', ← Int.natCast_mul] at h5
      have h6 : b * Z ≤ 1048576 := by rw [Nat.mul_comm]; omega
      have h7 : Z ≤ b * Z := Nat.le_mul_of_pos_left Z (by omega)
      exact pow_w2 w p n c xs Z h (by omega) (by omega) (by omega) (by rw [Int.toNat_natCast]; omega) (by rw [hb', Int.toNat_natCast]; exact h6) hq
end Go.Proofs.YtaplbadcpbollaaGreatDoor

/-
  The ends of numerals, cuts, numbers of digits.
-/
namespace Go.Proofs.YtaplbadcpbollaaGreatDoor
open Go Go.RowKit Nt
set_option linter.unusedSimpArgs false
set_option linter.unusedVariables false
set_option maxRecDepth 20000


section
variable {ops : Array Oper} {l : List Kd} {bx : Bxs} {sl : List (Tmp × Pr)} {i : Nat} {o : Oper} {Q : Exit → Act → World → Prop} {a0 : Act} {n : Nat} {w0 : World}
/-- A whole number is made of a sign and limbs. -/
theorem owe_bint2 {x y : Operand} {b : Bool} {m k : Nat} (ho : ops[i]? = some o) (hw : Wants ops l bx sl i o) (hop : o.op = .build 24 #[(0, x), (1, y)]) (hx : Opnd ops l bx sl i x (Is (.bool b))) (hy : Opnd ops l bx sl i y (Nv m k)) (hk : kdAt l i = .val (Zv (sg b m) k)) : Owed Tryz.prog ops Q l bx sl a0 n w0 i :=
  owe_val ho hw hk fun vs B a w c => by
    have hxv : a.eval x = .bool b := (hx a0 n w0 vs B a w c).now
    have hY := hy a0 n w0 vs B a w c
    obtain ⟨p, n', c', xs, e, hs, hv, hn⟩ := hY.now
    refine ⟨.agg #[.bool b, .slice p n' c'], ?_, fun w' ev => ?_⟩
    · unfold execOp
      rw [hop]
      generalize a.eval = ρ at hxv e
      go_simp
    · obtain ⟨p2, n2, c2, xs2, e2, hs2, hv2, hn2⟩ := hY w' ev
      rw [e] at e2
      cases e2
      exact ⟨b, p, n', c', xs2, rfl, hs2, by rw [hv2], hn2⟩
theorem owe_bint1 {y : Operand} {m k : Nat} (ho : ops[i]? = some o) (hw : Wants ops l bx sl i o) (hop : o.op = .build 24 #[(1, y)]) (hy : Opnd ops l bx sl i y (Nv m k)) (hk : kdAt l i = .val (Zv (sg false m) k)) : Owed Tryz.prog ops Q l bx sl a0 n w0 i :=
  owe_val ho hw hk fun vs B a w c => by
    have hY := hy a0 n w0 vs B a w c
    obtain ⟨p, n', c', xs, e, hs, hv, hn⟩ := hY.now
    refine ⟨.agg #[.bool false, .slice p n' c'], ?_, fun w' ev => ?_⟩
    · unfold execOp
      rw [hop]
      generalize a.eval = ρ at e
      go_simp
    · obtain ⟨p2, n2, c2, xs2, e2, hs2, hv2, hn2⟩ := hY w' ev
      rw [e] at e2
      cases e2
      exact ⟨false, p, n', c', xs2, rfl, hs2, by rw [hv2], hn2⟩
theorem owe_three3 {x y z : Operand} {P' : Op} {u v t r : Value} (ho : ops[i]? = some o) (hw : Wants ops l bx sl i o) (hop : o.op = P') (hx : Opnd ops l bx sl i x (Is u)) (hy : Opnd ops l bx sl i y (Is v)) (hz : Opnd ops l bx sl i z (Is t)) (hk : kdAt l i = .val (Is r))
    (hr : ∀ (ρ : Operand → Value) (w : World), ρ x = u → ρ y = v → ρ z = t → (execOp ρ { o with op := P' }).run Tryz.prog w = .ok (.value r) w) : Owed Tryz.prog ops Q l bx sl a0 n w0 i :=
  owe_is ho hw hk fun vs B a w c => by
    have := hr a.eval w (hx a0 n w0 vs B a w c).now (hy a0 n w0 vs B a w c).now (hz a0 n w0 vs B a w c).now
    rw [← this]
    unfold execOp
    rw [hop]
end
theorem run_slb (ρ : Operand → Value) (o : Oper) (x y z : Operand) (w : World) (l : List UInt8) (i j : Nat) (hi : i ≤ j ∧ j ≤ l.length) (h1 : ρ x = str l) (h2 : ρ y = .int .i64 (i : Nat)) (h3 : ρ z = .int .i64 (j : Nat)) : (execOp ρ { o with op := .slice 9 x (some y) (some z) none }).run Tryz.prog w = .ok (.value (str ((l.drop i).take (j - i)))) w := by
  obtain ⟨hi, hj⟩ := hi
  have e : str ((l.drop i).take (j - i)) = .string ((⟨l.toArray⟩ : ByteArray).extract i j) := by
    unfold str
    congr 1
    apply ByteArray.ext
    apply Array.ext'
    simp [ByteArray.data_extract, ByteArray.size]
  rw [e]
  unfold str at h1
  unfold execOp
  go_simp
/-! nat.Read of nothing but digits. -/
theorem g_readok {t : List UInt8} (hl : t.length ≤ 65536) (hp : 0 < t.length) (hg : ∀ j, j < t.length → ¬ bad t j) : ∀ w u, Is (str t) u w → Calls Tryz.prog 56 #[u] w (Gives (THREE (NN (decV t)) (IS (.int .i64 0)) (IS (.int .i64 0))) w) := by
  rintro w u rfl
  refine (read_c w ⟨t.toArray⟩ (by rw [str_size]; exact hp) (by rw [str_size]; exact hl)).mono ?_
  rintro e w' (⟨i, h1, h2, _⟩ | ⟨_, r, cr, rfl, A⟩)
  · rw [str_size] at h1
    exact absurd h2 (hg i h1)
  · exact ⟨_, rfl, A.below, _, _, _, rfl, ⟨r, cr, rfl, A.sl, A.fresh⟩, rfl, rfl⟩
theorem g_read0 {t : List UInt8} (h : t = []) : ∀ w u, Is (str t) u w → Calls Tryz.prog 56 #[u] w (Gives (THREE (NN 0) (IS (.int .i64 0)) (IS (.int .i64 4))) w) := by
  rintro w u rfl
  subst h
  refine (read_empty w).mono ?_
  rintro e w' ⟨rfl, rfl⟩
  exact ⟨_, rfl, Below.refl _ _, _, _, _, rfl, ⟨none, 0, by rw [digs_zero]; rfl, by rw [digs_zero]; exact Sl.none _, fun b o e => by cases e⟩, rfl, rfl⟩
theorem g_trim0 {t : List UInt8} : ∀ w u v, Is (str t) u w → Is (str [48]) v w → Calls Tryz.prog 57 #[u, v] w (Gives (IS (str (t.dropWhile (· == 48)))) w) := by
  rintro w u v rfl rfl
  refine (Tryz.strings_TrimLeft_one ⟨t.toArray⟩ 48 (by decide) w).mono ?_
  rintro e w' ⟨rfl, rfl⟩
  exact ⟨_, rfl, Below.refl _ _, rfl⟩
theorem g_index {l : List UInt8} : ∀ w u v, Is (str l) u w → Is (str [47]) v w → Calls Tryz.prog 84 #[u, v] w (Gives (IS (.int .i64 (Lib.indexByte l 47))) w) := by
  rintro w u v rfl rfl
  refine (Tryz.stringslite_Index_one ⟨l.toArray⟩ 47 w).mono ?_
  rintro e w' ⟨rfl, rfl⟩
  exact ⟨_, rfl, Below.refl _ _, rfl⟩

set_option maxHeartbeats 2000000 in
theorem nend_t (w : World) (l : List UInt8) (fa e : Nat) (hl : l.length ≤ 131072) (ha : fa ≤ l.length) (h : NE l fa true e) :
    Calls Tryz.prog 50 #[str l, .int .i64 (fa : Nat), .bool true] w (Gives (IS (.int .i64 (e : Nat))) w) := by
  refine calls_sta (sl := [(0, (sV l)), (1, (iV (fa : Nat))), (2, bT)]) Tryz.func50 rfl Tryz.ntmps50 (by simp) (args_cons rfl (is_has _) (args_cons rfl (is_has _) (args_cons rfl (is_has _) args_nil))) ?_
  intro a0 S0
  refine wp_stmt_seq [.val (iV 0)] [] [.inr 0, .inr 1, .inr 2] follows S0 rfl (by kernel_rfl) ?_ ?_
  · refine ⟨trivial, ?_⟩
    · exact mC
  intro B1 a1 W1 (S1 : Sta w 40 [] [(0, sV l), (1, iV (fa : Nat)), (2, bT)] _ _ _)
  rcases (show (fa < l.length ∧ bt l fa = 48 ∧ e = fa + 1) ∨ (fa < l.length ∧ bt l fa ≠ 48 ∧ Run l fa e) ∨ (fa = l.length ∧ Run l fa e) from by rcases h with ⟨q1, q2, q3⟩ | ⟨q1, q2⟩; exact Or.inl ⟨q1, q2, by simpa using q3⟩; by_cases q3 : fa < l.length; exact Or.inr (Or.inl ⟨q3, fun q4 => q1 ⟨q3, q4⟩, q2⟩); exact Or.inr (Or.inr ⟨by omega, q2⟩)) with ⟨q1, q2, q3⟩ | ⟨q1, q2, g1, g2, g3, g4⟩ | ⟨q1, g1, g2, g3, g4⟩
  · skip
    rw [q3]
    refine wp_seq ?_
    refine wp_stmt_seq [.val (iV (fa : Nat)), .val (sV l), .val (iV ((l).length : Nat)), kT, kT, .val (sV l), .val (iV (fa : Nat)), .val (Is (.int .u8 ((bt l fa : Nat) : Int))), kT, kT] [] [.inl 9, .inr 0, .inr 1, .inr 2] follows S1 rfl (by kernel_rfl) ?_ ?_
    · repeat' refine And.intro ?_ ?_
      · trivial
      · exact mS 1 1
      · exact mS 0 0
      · exact b_lens wA (oO 1 8)
      · exact b_lss_int_t wA (oO 0 7) (oO 2 9)
      · exact mO 3 10
      · exact mW (wI 4 11) (oS 0 0)
      · exact mW (wI 4 11) (oS 1 1)
      · exact b_idx (wI 4 11) (oO 5 12) (oO 6 13)
      · exact b_eql_u8_t (wI 4 11) (oO 7 14) (opnd_const _)
      · exact pT wA (oO 4 11) (oO 8 15)
    intro B2 a2 W2 (S2 : Sta w 40 [] [(16, bT), (0, sV l), (1, iV (fa : Nat)), (2, bT)] _ _ _)
    refine wp_cond_true (S2.bool 0 16 rfl) ?_
    refine wp_seq ?_
    refine wp_stmt_seq [kT] [] [.inl 0, .inr 2] follows S2 rfl (by kernel_rfl) ?_ ?_
    · refine ⟨trivial, ?_⟩
      · exact mS 3 2
    intro B3 a3 W3 (S3 : Sta w 40 [] [(17, bT), (1, iV (fa : Nat))] _ _ _)
    refine wp_cond_true (S3.bool 0 17 rfl) ?_
    refine wp_stmt [.val (iV (fa : Nat)), .val (iV ((fa + 1 : Nat) : Int)), .val (iV ((fa + 1 : Nat) : Int))] [] [.inl 2] follows S3 rfl (by kernel_rfl) ?_ ?_
    · refine ⟨⟨⟨trivial, ?_⟩, ?_⟩, ?_⟩
      · exact mS 1 1
      · exact b_add_int wA (oO 0 18) (opnd_const _)
      · exact mO 1 19
    intro B4 a4 W4 (S4 : Sta w 40 [] [(1, iV ((fa + 1 : Nat) : Int))] _ _ _)
    refine thenN ?_
    refine wp_stmt_seq [.val (iV ((fa + 1 : Nat) : Int)), .val (iV ((fa + 1 : Nat) : Int))] [] [.inl 1] follows S4 rfl (by kernel_rfl) ?_ ?_
    · refine ⟨⟨trivial, ?_⟩, ?_⟩
      · exact mS 0 1
      · exact mO 0 20
    intro B5 a5 W5 (S5 : Sta w 40 [] [(6, iV ((fa + 1 : Nat) : Int))] _ _ _)
    refine wp_ret ?_
    refine thenR ?_
    exact end_one S5 rfl (res_tmp S5 0 6 rfl)
  · skip
    refine wp_seq ?_
    refine wp_stmt_seq [.val (iV (fa : Nat)), .val (sV l), .val (iV ((l).length : Nat)), kT, kT, .val (sV l), .val (iV (fa : Nat)), .val (Is (.int .u8 ((bt l fa : Nat) : Int))), kF, kF] [] [.inl 9, .inr 0, .inr 1, .inr 2] follows S1 rfl (by kernel_rfl) ?_ ?_
    · repeat' refine And.intro ?_ ?_
      · trivial
      · exact mS 1 1
      · exact mS 0 0
      · exact b_lens wA (oO 1 8)
      · exact b_lss_int_t wA (oO 0 7) (oO 2 9)
      · exact mO 3 10
      · exact mW (wI 4 11) (oS 0 0)
      · exact mW (wI 4 11) (oS 1 1)
      · exact b_idx (wI 4 11) (oO 5 12) (oO 6 13)
      · exact b_eql_u8_f (wI 4 11) (oO 7 14) (opnd_const _)
      · exact pT wA (oO 4 11) (oO 8 15)
    intro B2 a2 W2 (S2 : Sta w 40 [] [(16, bF), (0, sV l), (1, iV (fa : Nat)), (2, bT)] _ _ _)
    refine wp_cond_false (S2.bool 0 16 rfl) ?_
    refine wp_skip ?_
    refine thenN ?_
    refine wp_seq ?_
    refine wp_block ?_
    refine wp_loop_ghost (fun (k0 : Nat) a W => (fa ≤ k0 ∧ k0 ≤ e) ∧ ∃ Bq, Sta w 40 [] [(0, sV l), (1, iV k0)] Bq a W) (fun (k0 : Nat) => e - k0) ?_ fa ⟨⟨Nat.le_refl _, g1⟩, B2, S2.sub [] [1, 2]⟩
    rintro k0 a3 W3 ⟨hcond, B3, S3⟩
    by_cases hlt : k0 < e
    · have hb := dgB_iff.1 (g3 k0 (by omega) hlt)
      have hbl := bt_lt l k0
      refine wp_seq ?_
      refine wp_stmt_seq [.val (iV k0), .val (sV l), .val (iV ((l).length : Nat)), kT, kT, .val (sV l), .val (iV k0), .val (Is (.int .u8 ((bt l k0 : Nat) : Int))), kT, kT, kT, .val (sV l), .val (iV k0), .val (Is (.int .u8 ((bt l k0 : Nat) : Int))), kT, kT] [] [.inl 15, .inr 0, .inr 1] follows S3 rfl (by kernel_rfl) ?_ ?_
      · repeat' refine And.intro ?_ ?_
        · trivial
        · exact mS 1 1
        · exact mS 0 0
        · exact b_lens wA (oO 1 22)
        · exact b_lss_int_t wA (oO 0 21) (oO 2 23)
        · exact mO 3 24
        · exact mW (wI 4 25) (oS 0 0)
        · exact mW (wI 4 25) (oS 1 1)
        · exact b_idx (wI 4 25) (oO 5 26) (oO 6 27)
        · exact b_leq_u8_t (wI 4 25) (opnd_const _) (oO 7 28)
        · exact pT wA (oO 4 25) (oO 8 29)
        · exact mO 9 30
        · exact mW (wI 10 31) (oS 0 0)
        · exact mW (wI 10 31) (oS 1 1)
        · exact b_idx (wI 10 31) (oO 11 32) (oO 12 33)
        · exact b_leq_u8_t (wI 10 31) (oO 13 34) (opnd_const _)
        · exact pT wA (oO 10 31) (oO 14 35)
      intro B4 a4 W4 (S4 : Sta w 40 [] [(36, bT), (0, sV l), (1, iV k0)] _ _ _)
      refine wp_cond_true (S4.bool 0 36 rfl) ?_
      refine wp_skip ?_
      refine thenN ?_
      refine wp_block ?_
      refine wp_stmt [.val (iV k0), .val (iV (k0 + 1 : Nat)), .val (iV (k0 + 1 : Nat))] [] [.inl 2, .inr 1] follows S4 rfl (by kernel_rfl) ?_ ?_
      · refine ⟨⟨⟨trivial, ?_⟩, ?_⟩, ?_⟩
        · exact mS 2 1
        · exact b_add_int wA (oO 0 37) (opnd_const _)
        · exact mO 1 38
      intro B5 a5 W5 (S5 : Sta w 40 [] [(1, iV (k0 + 1 : Nat)), (0, sV l)] _ _ _)
      refine inBlkN ?_
      refine thenN ?_
      exact ⟨k0 + 1, ⟨by omega, B5, S5.sub [] [1, 0]⟩, by omega⟩
    · have ek : k0 = e := by omega
      rw [ek] at S3
      rcases (show e = l.length ∨ (e < l.length ∧ bt l e < 48) ∨ (e < l.length ∧ 48 ≤ bt l e ∧ 57 < bt l e) from by rcases Nat.lt_or_ge e l.length with hh | hh; have := dgB_no.1 (g4 hh); omega; omega) with hq | ⟨hq, hq2⟩ | ⟨hq, hq2, hq3⟩
      · skip
        refine wp_seq ?_
        refine wp_stmt_seq [.val (iV (e : Nat)), .val (sV l), .val (iV ((l).length : Nat)), kF, kF, .off, .off, .off, .off, kF, kF, .off, .off, .off, .off, kF] [] [.inl 15, .inr 0, .inr 1] follows S3 rfl (by kernel_rfl) ?_ ?_
        · repeat' refine And.intro ?_ ?_
          · trivial
          · exact mS 1 1
          · exact mS 0 0
          · exact b_lens wA (oO 1 22)
          · exact b_lss_int_f wA (oO 0 21) (oO 2 23)
          · exact mO 3 24
          · exact oF 4 25
          · exact oF 4 25
          · exact oF 4 25
          · exact oF 4 25
          · exact pF wA (oO 4 25) (opnd_const _)
          · exact mO 9 30
          · exact oF 10 31
          · exact oF 10 31
          · exact oF 10 31
          · exact oF 10 31
          · exact pF wA (oO 10 31) (opnd_const _)
        intro B4 a4 W4 (S4 : Sta w 40 [] [(36, bF), (0, sV l), (1, iV (e : Nat))] _ _ _)
        refine wp_cond_false (S4.bool 0 36 rfl) ?_
        refine wp_exit ?_
        refine thenX ?_
        refine thenX ?_
        refine inBlkE ?_
        refine thenN ?_
        refine wp_stmt_seq [.val (iV (e : Nat)), .val (iV (e : Nat))] [] [.inl 1, .inr 1, .inr 2] follows S4 rfl (by kernel_rfl) ?_ ?_
        · refine ⟨⟨trivial, ?_⟩, ?_⟩
          · exact mS 2 1
          · exact mO 0 39
        intro B5 a5 W5 (S5 : Sta w 40 [] [(6, iV (e : Nat)), (0, sV l), (1, iV (e : Nat))] _ _ _)
        refine wp_ret ?_
        exact end_one S5 rfl (res_tmp S5 0 6 rfl)
      · skip
        refine wp_seq ?_
        refine wp_stmt_seq [.val (iV (e : Nat)), .val (sV l), .val (iV ((l).length : Nat)), kT, kT, .val (sV l), .val (iV (e : Nat)), .val (Is (.int .u8 ((bt l e : Nat) : Int))), kF, kF, kF, .off, .off, .off, .off, kF] [] [.inl 15, .inr 0, .inr 1] follows S3 rfl (by kernel_rfl) ?_ ?_
        · repeat' refine And.intro ?_ ?_
          · trivial
          · exact mS 1 1
          · exact mS 0 0
          · exact b_lens wA (oO 1 22)
          · exact b_lss_int_t wA (oO 0 21) (oO 2 23)
          · exact mO 3 24
          · exact mW (wI 4 25) (oS 0 0)
          · exact mW (wI 4 25) (oS 1 1)
          · exact b_idx (wI 4 25) (oO 5 26) (oO 6 27)
          · exact b_leq_u8_f (wI 4 25) (opnd_const _) (oO 7 28)
          · exact pT wA (oO 4 25) (oO 8 29)
          · exact mO 9 30
          · exact oF 10 31
          · exact oF 10 31
          · exact oF 10 31
          · exact oF 10 31
          · exact pF wA (oO 10 31) (opnd_const _)
        intro B4 a4 W4 (S4 : Sta w 40 [] [(36, bF), (0, sV l), (1, iV (e : Nat))] _ _ _)
        refine wp_cond_false (S4.bool 0 36 rfl) ?_
        refine wp_exit ?_
        refine thenX ?_
        refine thenX ?_
        refine inBlkE ?_
        refine thenN ?_
        refine wp_stmt_seq [.val (iV (e : Nat)), .val (iV (e : Nat))] [] [.inl 1, .inr 1, .inr 2] follows S4 rfl (by kernel_rfl) ?_ ?_
        · refine ⟨⟨trivial, ?_⟩, ?_⟩
          · exact mS 2 1
          · exact mO 0 39
        intro B5 a5 W5 (S5 : Sta w 40 [] [(6, iV (e : Nat)), (0, sV l), (1, iV (e : Nat))] _ _ _)
        refine wp_ret ?_
        exact end_one S5 rfl (res_tmp S5 0 6 rfl)
      · skip
        refine wp_seq ?_
        refine wp_stmt_seq [.val (iV (e : Nat)), .val (sV l), .val (iV ((l).length : Nat)), kT, kT, .val (sV l), .val (iV (e : Nat)), .val (Is (.int .u8 ((bt l e : Nat) : Int))), kT, kT, kT, .val (sV l), .val (iV (e : Nat)), .val (Is (.int .u8 ((bt l e : Nat) : Int))), kF, kF] [] [.inl 15, .inr 0, .inr 1] follows S3 rfl (by kernel_rfl) ?_ ?_
        · repeat' refine And.intro ?_ ?_
          · trivial
          · exact mS 1 1
          · exact mS 0 0
          · exact b_lens wA (oO 1 22)
          · exact b_lss_int_t wA (oO 0 21) (oO 2 23)
          · exact mO 3 24
          · exact mW (wI 4 25) (oS 0 0)
          · exact mW (wI 4 25) (oS 1 1)
          · exact b_idx (wI 4 25) (oO 5 26) (oO 6 27)
          · exact b_leq_u8_t (wI 4 25) (opnd_const _) (oO 7 28)
          · exact pT wA (oO 4 25) (oO 8 29)
          · exact mO 9 30
          · exact mW (wI 10 31) (oS 0 0)
          · exact mW (wI 10 31) (oS 1 1)
          · exact b_idx (wI 10 31) (oO 11 32) (oO 12 33)
          · exact b_leq_u8_f (wI 10 31) (oO 13 34) (opnd_const _)
          · exact pT wA (oO 10 31) (oO 14 35)
        intro B4 a4 W4 (S4 : Sta w 40 [] [(36, bF), (0, sV l), (1, iV (e : Nat))] _ _ _)
        refine wp_cond_false (S4.bool 0 36 rfl) ?_
        refine wp_exit ?_
        refine thenX ?_
        refine thenX ?_
        refine inBlkE ?_
        refine thenN ?_
        refine wp_stmt_seq [.val (iV (e : Nat)), .val (iV (e : Nat))] [] [.inl 1, .inr 1, .inr 2] follows S4 rfl (by kernel_rfl) ?_ ?_
        · refine ⟨⟨trivial, ?_⟩, ?_⟩
          · exact mS 2 1
          · exact mO 0 39
        intro B5 a5 W5 (S5 : Sta w 40 [] [(6, iV (e : Nat)), (0, sV l), (1, iV (e : Nat))] _ _ _)
        refine wp_ret ?_
        exact end_one S5 rfl (res_tmp S5 0 6 rfl)
  · skip
    refine wp_seq ?_
    refine wp_stmt_seq [.val (iV (fa : Nat)), .val (sV l), .val (iV ((l).length : Nat)), kF, kF, .off, .off, .off, .off, kF] [] [.inl 9, .inr 0, .inr 1, .inr 2] follows S1 rfl (by kernel_rfl) ?_ ?_
    · repeat' refine And.intro ?_ ?_
      · trivial
      · exact mS 1 1
      · exact mS 0 0
      · exact b_lens wA (oO 1 8)
      · exact b_lss_int_f wA (oO 0 7) (oO 2 9)
      · exact mO 3 10
      · exact oF 4 11
      · exact oF 4 11
      · exact oF 4 11
      · exact oF 4 11
      · exact pF wA (oO 4 11) (opnd_const _)
    intro B2 a2 W2 (S2 : Sta w 40 [] [(16, bF), (0, sV l), (1, iV (fa : Nat)), (2, bT)] _ _ _)
    refine wp_cond_false (S2.bool 0 16 rfl) ?_
    refine wp_skip ?_
    refine thenN ?_
    refine wp_seq ?_
    refine wp_block ?_
    refine wp_loop_ghost (fun (k0 : Nat) a W => (fa ≤ k0 ∧ k0 ≤ e) ∧ ∃ Bq, Sta w 40 [] [(0, sV l), (1, iV k0)] Bq a W) (fun (k0 : Nat) => e - k0) ?_ fa ⟨⟨Nat.le_refl _, g1⟩, B2, S2.sub [] [1, 2]⟩
    rintro k0 a3 W3 ⟨hcond, B3, S3⟩
    by_cases hlt : k0 < e
    · have hb := dgB_iff.1 (g3 k0 (by omega) hlt)
      have hbl := bt_lt l k0
      refine wp_seq ?_
      refine wp_stmt_seq [.val (iV k0), .val (sV l), .val (iV ((l).length : Nat)), kT, kT, .val (sV l), .val (iV k0), .val (Is (.int .u8 ((bt l k0 : Nat) : Int))), kT, kT, kT, .val (sV l), .val (iV k0), .val (Is (.int .u8 ((bt l k0 : Nat) : Int))), kT, kT] [] [.inl 15, .inr 0, .inr 1] follows S3 rfl (by kernel_rfl) ?_ ?_
      · repeat' refine And.intro ?_ ?_
        · trivial
        · exact mS 1 1
        · exact mS 0 0
        · exact b_lens wA (oO 1 22)
        · exact b_lss_int_t wA (oO 0 21) (oO 2 23)
        · exact mO 3 24
        · exact mW (wI 4 25) (oS 0 0)
        · exact mW (wI 4 25) (oS 1 1)
        · exact b_idx (wI 4 25) (oO 5 26) (oO 6 27)
        · exact b_leq_u8_t (wI 4 25) (opnd_const _) (oO 7 28)
        · exact pT wA (oO 4 25) (oO 8 29)
        · exact mO 9 30
        · exact mW (wI 10 31) (oS 0 0)
        · exact mW (wI 10 31) (oS 1 1)
        · exact b_idx (wI 10 31) (oO 11 32) (oO 12 33)
        · exact b_leq_u8_t (wI 10 31) (oO 13 34) (opnd_const _)
        · exact pT wA (oO 10 31) (oO 14 35)
      intro B4 a4 W4 (S4 : Sta w 40 [] [(36, bT), (0, sV l), (1, iV k0)] _ _ _)
      refine wp_cond_true (S4.bool 0 36 rfl) ?_
      refine wp_skip ?_
      refine thenN ?_
      refine wp_block ?_
      refine wp_stmt [.val (iV k0), .val (iV (k0 + 1 : Nat)), .val (iV (k0 + 1 : Nat))] [] [.inl 2, .inr 1] follows S4 rfl (by kernel_rfl) ?_ ?_
      · refine ⟨⟨⟨trivial, ?_⟩, ?_⟩, ?_⟩
        · exact mS 2 1
        · exact b_add_int wA (oO 0 37) (opnd_const _)
        · exact mO 1 38
      intro B5 a5 W5 (S5 : Sta w 40 [] [(1, iV (k0 + 1 : Nat)), (0, sV l)] _ _ _)
      refine inBlkN ?_
      refine thenN ?_
      exact ⟨k0 + 1, ⟨by omega, B5, S5.sub [] [1, 0]⟩, by omega⟩
    · have ek : k0 = e := by omega
      rw [ek] at S3
      rcases (show e = l.length ∨ (e < l.length ∧ bt l e < 48) ∨ (e < l.length ∧ 48 ≤ bt l e ∧ 57 < bt l e) from by rcases Nat.lt_or_ge e l.length with hh | hh; have := dgB_no.1 (g4 hh); omega; omega) with hq | ⟨hq, hq2⟩ | ⟨hq, hq2, hq3⟩
      · skip
        refine wp_seq ?_
        refine wp_stmt_seq [.val (iV (e : Nat)), .val (sV l), .val (iV ((l).length : Nat)), kF, kF, .off, .off, .off, .off, kF, kF, .off, .off, .off, .off, kF] [] [.inl 15, .inr 0, .inr 1] follows S3 rfl (by kernel_rfl) ?_ ?_
        · repeat' refine And.intro ?_ ?_
          · trivial
          · exact mS 1 1
          · exact mS 0 0
          · exact b_lens wA (oO 1 22)
          · exact b_lss_int_f wA (oO 0 21) (oO 2 23)
          · exact mO 3 24
          · exact oF 4 25
          · exact oF 4 25
          · exact oF 4 25
          · exact oF 4 25
          · exact pF wA (oO 4 25) (opnd_const _)
          · exact mO 9 30
          · exact oF 10 31
          · exact oF 10 31
          · exact oF 10 31
          · exact oF 10 31
          · exact pF wA (oO 10 31) (opnd_const _)
        intro B4 a4 W4 (S4 : Sta w 40 [] [(36, bF), (0, sV l), (1, iV (e : Nat))] _ _ _)
        refine wp_cond_false (S4.bool 0 36 rfl) ?_
        refine wp_exit ?_
        refine thenX ?_
        refine thenX ?_
        refine inBlkE ?_
        refine thenN ?_
        refine wp_stmt_seq [.val (iV (e : Nat)), .val (iV (e : Nat))] [] [.inl 1, .inr 1, .inr 2] follows S4 rfl (by kernel_rfl) ?_ ?_
        · refine ⟨⟨trivial, ?_⟩, ?_⟩
          · exact mS 2 1
          · exact mO 0 39
        intro B5 a5 W5 (S5 : Sta w 40 [] [(6, iV (e : Nat)), (0, sV l), (1, iV (e : Nat))] _ _ _)
        refine wp_ret ?_
        exact end_one S5 rfl (res_tmp S5 0 6 rfl)
      · skip
        refine wp_seq ?_
        refine wp_stmt_seq [.val (iV (e : Nat)), .val (sV l), .val (iV ((l).length : Nat)), kT, kT, .val (sV l), .val (iV (e : Nat)), .val (Is (.int .u8 ((bt l e : Nat) : Int))), kF, kF, kF, .off, .off, .off, .off, kF] [] [.inl 15, .inr 0, .inr 1] follows S3 rfl (by kernel_rfl) ?_ ?_
        · repeat' refine And.intro ?_ ?_
          · trivial
          · exact mS 1 1
          · exact mS 0 0
          · exact b_lens wA (oO 1 22)
          · exact b_lss_int_t wA (oO 0 21) (oO 2 23)
          · exact mO 3 24
          · exact mW (wI 4 25) (oS 0 0)
          · exact mW (wI 4 25) (oS 1 1)
          · exact b_idx (wI 4 25) (oO 5 26) (oO 6 27)
          · exact b_leq_u8_f (wI 4 25) (opnd_const _) (oO 7 28)
          · exact pT wA (oO 4 25) (oO 8 29)
          · exact mO 9 30
          · exact oF 10 31
          · exact oF 10 31
          · exact oF 10 31
          · exact oF 10 31
          · exact pF wA (oO 10 31) (opnd_const _)
        intro B4 a4 W4 (S4 : Sta w 40 [] [(36, bF), (0, sV l), (1, iV (e : Nat))] _ _ _)
        refine wp_cond_false (S4.bool 0 36 rfl) ?_
        refine wp_exit ?_
        refine thenX ?_
        refine thenX ?_
        refine inBlkE ?_
        refine thenN ?_
        refine wp_stmt_seq [.val (iV (e : Nat)), .val (iV (e : Nat))] [] [.inl 1, .inr 1, .inr 2] follows S4 rfl (by kernel_rfl) ?_ ?_
        · refine ⟨⟨trivial, ?_⟩, ?_⟩
          · exact mS 2 1
          · exact mO 0 39
        intro B5 a5 W5 (S5 : Sta w 40 [] [(6, iV (e : Nat)), (0, sV l), (1, iV (e : Nat))] _ _ _)
        refine wp_ret ?_
        exact end_one S5 rfl (res_tmp S5 0 6 rfl)
      · skip
        refine wp_seq ?_
        refine wp_stmt_seq [.val (iV (e : Nat)), .val (sV l), .val (iV ((l).length : Nat)), kT, kT, .val (sV l), .val (iV (e : Nat)), .val (Is (.int .u8 ((bt l e : Nat) : Int))), kT, kT, kT, .val (sV l), .val (iV (e : Nat)), .val (Is (.int .u8 ((bt l e : Nat) : Int))), kF, kF] [] [.inl 15, .inr 0, .inr 1] follows S3 rfl (by kernel_rfl) ?_ ?_
        · repeat' refine And.intro ?_ ?_
          · trivial
          · exact mS 1 1
          · exact mS 0 0
          · exact b_lens wA (oO 1 22)
          · exact b_lss_int_t wA (oO 0 21) (oO 2 23)
          · exact mO 3 24
          · exact mW (wI 4 25) (oS 0 0)
          · exact mW (wI 4 25) (oS 1 1)
          · exact b_idx (wI 4 25) (oO 5 26) (oO 6 27)
          · exact b_leq_u8_t (wI 4 25) (opnd_const _) (oO 7 28)
          · exact pT wA (oO 4 25) (oO 8 29)
          · exact mO 9 30
          · exact mW (wI 10 31) (oS 0 0)
          · exact mW (wI 10 31) (oS 1 1)
          · exact b_idx (wI 10 31) (oO 11 32) (oO 12 33)
          · exact b_leq_u8_f (wI 10 31) (oO 13 34) (opnd_const _)
          · exact pT wA (oO 10 31) (oO 14 35)
        intro B4 a4 W4 (S4 : Sta w 40 [] [(36, bF), (0, sV l), (1, iV (e : Nat))] _ _ _)
        refine wp_cond_false (S4.bool 0 36 rfl) ?_
        refine wp_exit ?_
        refine thenX ?_
        refine thenX ?_
        refine inBlkE ?_
        refine thenN ?_
        refine wp_stmt_seq [.val (iV (e : Nat)), .val (iV (e : Nat))] [] [.inl 1, .inr 1, .inr 2] follows S4 rfl (by kernel_rfl) ?_ ?_
        · refine ⟨⟨trivial, ?_⟩, ?_⟩
          · exact mS 2 1
          · exact mO 0 39
        intro B5 a5 W5 (S5 : Sta w 40 [] [(6, iV (e : Nat)), (0, sV l), (1, iV (e : Nat))] _ _ _)
        refine wp_ret ?_
        exact end_one S5 rfl (res_tmp S5 0 6 rfl)

set_option maxHeartbeats 2000000 in
theorem nend_f (w : World) (l : List UInt8) (fa e : Nat) (hl : l.length ≤ 131072) (ha : fa ≤ l.length) (h : NE l fa false e) :
    Calls Tryz.prog 50 #[str l, .int .i64 (fa : Nat), .bool false] w (Gives (IS (.int .i64 (e : Nat))) w) := by
  refine calls_sta (sl := [(0, (sV l)), (1, (iV (fa : Nat))), (2, bF)]) Tryz.func50 rfl Tryz.ntmps50 (by simp) (args_cons rfl (is_has _) (args_cons rfl (is_has _) (args_cons rfl (is_has _) args_nil))) ?_
  intro a0 S0
  refine wp_stmt_seq [.val (iV 0)] [] [.inr 0, .inr 1, .inr 2] follows S0 rfl (by kernel_rfl) ?_ ?_
  · refine ⟨trivial, ?_⟩
    · exact mC
  intro B1 a1 W1 (S1 : Sta w 40 [] [(0, sV l), (1, iV (fa : Nat)), (2, bF)] _ _ _)
  rcases (show (fa < l.length ∧ bt l fa = 48 ∧ e = fa) ∨ (fa < l.length ∧ bt l fa ≠ 48 ∧ Run l fa e) ∨ (fa = l.length ∧ Run l fa e) from by rcases h with ⟨q1, q2, q3⟩ | ⟨q1, q2⟩; exact Or.inl ⟨q1, q2, by simpa using q3⟩; by_cases q3 : fa < l.length; exact Or.inr (Or.inl ⟨q3, fun q4 => q1 ⟨q3, q4⟩, q2⟩); exact Or.inr (Or.inr ⟨by omega, q2⟩)) with ⟨q1, q2, q3⟩ | ⟨q1, q2, g1, g2, g3, g4⟩ | ⟨q1, g1, g2, g3, g4⟩
  · skip
    rw [q3]
    refine wp_seq ?_
    refine wp_stmt_seq [.val (iV (fa : Nat)), .val (sV l), .val (iV ((l).length : Nat)), kT, kT, .val (sV l), .val (iV (fa : Nat)), .val (Is (.int .u8 ((bt l fa : Nat) : Int))), kT, kT] [] [.inl 9, .inr 0, .inr 1, .inr 2] follows S1 rfl (by kernel_rfl) ?_ ?_
    · repeat' refine And.intro ?_ ?_
      · trivial
      · exact mS 1 1
      · exact mS 0 0
      · exact b_lens wA (oO 1 8)
      · exact b_lss_int_t wA (oO 0 7) (oO 2 9)
      · exact mO 3 10
      · exact mW (wI 4 11) (oS 0 0)
      · exact mW (wI 4 11) (oS 1 1)
      · exact b_idx (wI 4 11) (oO 5 12) (oO 6 13)
      · exact b_eql_u8_t (wI 4 11) (oO 7 14) (opnd_const _)
      · exact pT wA (oO 4 11) (oO 8 15)
    intro B2 a2 W2 (S2 : Sta w 40 [] [(16, bT), (0, sV l), (1, iV (fa : Nat)), (2, bF)] _ _ _)
    refine wp_cond_true (S2.bool 0 16 rfl) ?_
    refine wp_seq ?_
    refine wp_stmt_seq [kF] [] [.inl 0, .inr 2] follows S2 rfl (by kernel_rfl) ?_ ?_
    · refine ⟨trivial, ?_⟩
      · exact mS 3 2
    intro B3 a3 W3 (S3 : Sta w 40 [] [(17, bF), (1, iV (fa : Nat))] _ _ _)
    refine wp_cond_false (S3.bool 0 17 rfl) ?_
    refine wp_skip ?_
    refine thenN ?_
    refine wp_stmt_seq [.val (iV (fa : Nat)), .val (iV (fa : Nat))] [] [.inl 1] follows S3 rfl (by kernel_rfl) ?_ ?_
    · refine ⟨⟨trivial, ?_⟩, ?_⟩
      · exact mS 1 1
      · exact mO 0 20
    intro B4 a4 W4 (S4 : Sta w 40 [] [(6, iV (fa : Nat))] _ _ _)
    refine wp_ret ?_
    refine thenR ?_
    exact end_one S4 rfl (res_tmp S4 0 6 rfl)
  · skip
    refine wp_seq ?_
    refine wp_stmt_seq [.val (iV (fa : Nat)), .val (sV l), .val (iV ((l).length : Nat)), kT, kT, .val (sV l), .val (iV (fa : Nat)), .val (Is (.int .u8 ((bt l fa : Nat) : Int))), kF, kF] [] [.inl 9, .inr 0, .inr 1, .inr 2] follows S1 rfl (by kernel_rfl) ?_ ?_
    · repeat' refine And.intro ?_ ?_
      · trivial
      · exact mS 1 1
      · exact mS 0 0
      · exact b_lens wA (oO 1 8)
      · exact b_lss_int_t wA (oO 0 7) (oO 2 9)
      · exact mO 3 10
      · exact mW (wI 4 11) (oS 0 0)
      · exact mW (wI 4 11) (oS 1 1)
      · exact b_idx (wI 4 11) (oO 5 12) (oO 6 13)
      · exact b_eql_u8_f (wI 4 11) (oO 7 14) (opnd_const _)
      · exact pT wA (oO 4 11) (oO 8 15)
    intro B2 a2 W2 (S2 : Sta w 40 [] [(16, bF), (0, sV l), (1, iV (fa : Nat)), (2, bF)] _ _ _)
    refine wp_cond_false (S2.bool 0 16 rfl) ?_
    refine wp_skip ?_
    refine thenN ?_
    refine wp_seq ?_
    refine wp_block ?_
    refine wp_loop_ghost (fun (k0 : Nat) a W => (fa ≤ k0 ∧ k0 ≤ e) ∧ ∃ Bq, Sta w 40 [] [(0, sV l), (1, iV k0)] Bq a W) (fun (k0 : Nat) => e - k0) ?_ fa ⟨⟨Nat.le_refl _, g1⟩, B2, S2.sub [] [1, 2]⟩
    rintro k0 a3 W3 ⟨hcond, B3, S3⟩
    by_cases hlt : k0 < e
    · have hb := dgB_iff.1 (g3 k0 (by omega) hlt)
      have hbl := bt_lt l k0
      refine wp_seq ?_
      refine wp_stmt_seq [.val (iV k0), .val (sV l), .val (iV ((l).length : Nat)), kT, kT, .val (sV l), .val (iV k0), .val (Is (.int .u8 ((bt l k0 : Nat) : Int))), kT, kT, kT, .val (sV l), .val (iV k0), .val (Is (.int .u8 ((bt l k0 : Nat) : Int))), kT, kT] [] [.inl 15, .inr 0, .inr 1] follows S3 rfl (by kernel_rfl) ?_ ?_
      · repeat' refine And.intro ?_ ?_
        · trivial
        · exact mS 1 1
        · exact mS 0 0
        · exact b_lens wA (oO 1 22)
        · exact b_lss_int_t wA (oO 0 21) (oO 2 23)
        · exact mO 3 24
        · exact mW (wI 4 25) (oS 0 0)
        · exact mW (wI 4 25) (oS 1 1)
        · exact b_idx (wI 4 25) (oO 5 26) (oO 6 27)
        · exact b_leq_u8_t (wI 4 25) (opnd_const _) (oO 7 28)
        · exact pT wA (oO 4 25) (oO 8 29)
        · exact mO 9 30
        · exact mW (wI 10 31) (oS 0 0)
        · exact mW (wI 10 31) (oS 1 1)
        · exact b_idx (wI 10 31) (oO 11 32) (oO 12 33)
        · exact b_leq_u8_t (wI 10 31) (oO 13 34) (opnd_const _)
        · exact pT wA (oO 10 31) (oO 14 35)
      intro B4 a4 W4 (S4 : Sta w 40 [] [(36, bT), (0, sV l), (1, iV k0)] _ _ _)
      refine wp_cond_true (S4.bool 0 36 rfl) ?_
      refine wp_skip ?_
      refine thenN ?_
      refine wp_block ?_
      refine wp_stmt [.val (iV k0), .val (iV (k0 + 1 : Nat)), .val (iV (k0 + 1 : Nat))] [] [.inl 2, .inr 1] follows S4 rfl (by kernel_rfl) ?_ ?_
      · refine ⟨⟨⟨trivial, ?_⟩, ?_⟩, ?_⟩
        · exact mS 2 1
        · exact b_add_int wA (oO 0 37) (opnd_const _)
        · exact mO 1 38
      intro B5 a5 W5 (S5 : Sta w 40 [] [(1, iV (k0 + 1 : Nat)), (0, sV l)] _ _ _)
      refine inBlkN ?_
      refine thenN ?_
      exact ⟨k0 + 1, ⟨by omega, B5, S5.sub [] [1, 0]⟩, by omega⟩
    · have ek : k0 = e := by omega
      rw [ek] at S3
      rcases (show e = l.length ∨ (e < l.length ∧ bt l e < 48) ∨ (e < l.length ∧ 48 ≤ bt l e ∧ 57 < bt l e) from by rcases Nat.lt_or_ge e l.length with hh | hh; have := dgB_no.1 (g4 hh); omega; omega) with hq | ⟨hq, hq2⟩ | ⟨hq, hq2, hq3⟩
      · skip
        refine wp_seq ?_
        refine wp_stmt_seq [.val (iV (e : Nat)), .val (sV l), .val (iV ((l).length : Nat)), kF, kF, .off, .off, .off, .off, kF, kF, .off, .off, .off, .off, kF] [] [.inl 15, .inr 0, .inr 1] follows S3 rfl (by kernel_rfl) ?_ ?_
        · repeat' refine And.intro ?_ ?_
          · trivial
          · exact mS 1 1
          · exact mS 0 0
          · exact b_lens wA (oO 1 22)
          · exact b_lss_int_f wA (oO 0 21) (oO 2 23)
          · exact mO 3 24
          · exact oF 4 25
          · exact oF 4 25
          · exact oF 4 25
          · exact oF 4 25
          · exact pF wA (oO 4 25) (opnd_const _)
          · exact mO 9 30
          · exact oF 10 31
          · exact oF 10 31
          · exact oF 10 31
          · exact oF 10 31
          · exact pF wA (oO 10 31) (opnd_const _)
        intro B4 a4 W4 (S4 : Sta w 40 [] [(36, bF), (0, sV l), (1, iV (e : Nat))] _ _ _)
        refine wp_cond_false (S4.bool 0 36 rfl) ?_
        refine wp_exit ?_
        refine thenX ?_
        refine thenX ?_
        refine inBlkE ?_
        refine thenN ?_
        refine wp_stmt_seq [.val (iV (e : Nat)), .val (iV (e : Nat))] [] [.inl 1, .inr 1, .inr 2] follows S4 rfl (by kernel_rfl) ?_ ?_
        · refine ⟨⟨trivial, ?_⟩, ?_⟩
          · exact mS 2 1
          · exact mO 0 39
        intro B5 a5 W5 (S5 : Sta w 40 [] [(6, iV (e : Nat)), (0, sV l), (1, iV (e : Nat))] _ _ _)
        refine wp_ret ?_
        exact end_one S5 rfl (res_tmp S5 0 6 rfl)
      · skip
        refine wp_seq ?_
        refine wp_stmt_seq [.val (iV (e : Nat)), .val (sV l), .val (iV ((l).length : Nat)), kT, kT, .val (sV l), .val (iV (e : Nat)), .val (Is (.int .u8 ((bt l e : Nat) : Int))), kF, kF, kF, .off, .off, .off, .off, kF] [] [.inl 15, .inr 0, .inr 1] follows S3 rfl (by kernel_rfl) ?_ ?_
        · repeat' refine And.intro ?_ ?_
          · trivial
          · exact mS 1 1
          · exact mS 0 0
          · exact b_lens wA (oO 1 22)
          · exact b_lss_int_t wA (oO 0 21) (oO 2 23)
          · exact mO 3 24
          · exact mW (wI 4 25) (oS 0 0)
          · exact mW (wI 4 25) (oS 1 1)
          · exact b_idx (wI 4 25) (oO 5 26) (oO 6 27)
          · exact b_leq_u8_f (wI 4 25) (opnd_const _) (oO 7 28)
          · exact pT wA (oO 4 25) (oO 8 29)
          · exact mO 9 30
          · exact oF 10 31
          · exact oF 10 31
          · exact oF 10 31
          · exact oF 10 31
          · exact pF wA (oO 10 31) (opnd_const _)
        intro B4 a4 W4 (S4 : Sta w 40 [] [(36, bF), (0, sV l), (1, iV (e : Nat))] _ _ _)
        refine wp_cond_false (S4.bool 0 36 rfl) ?_
        refine wp_exit ?_
        refine thenX ?_
        refine thenX ?_
        refine inBlkE ?_
        refine thenN ?_
        refine wp_stmt_seq [.val (iV (e : Nat)), .val (iV (e : Nat))] [] [.inl 1, .inr 1, .inr 2] follows S4 rfl (by kernel_rfl) ?_ ?_
        · refine ⟨⟨trivial, ?_⟩, ?_⟩
          · exact mS 2 1
          · exact mO 0 39
        intro B5 a5 W5 (S5 : Sta w 40 [] [(6, iV (e : Nat)), (0, sV l), (1, iV (e : Nat))] _ _ _)
        refine wp_ret ?_
        exact end_one S5 rfl (res_tmp S5 0 6 rfl)
      · skip
        refine wp_seq ?_
        refine wp_stmt_seq [.val (iV (e : Nat)), .val (sV l), .val (iV ((l).length : Nat)), kT, kT, .val (sV l), .val (iV (e : Nat)), .val (Is (.int .u8 ((bt l e : Nat) : Int))), kT, kT, kT, .val (sV l), .val (iV (e : Nat)), .val (Is (.int .u8 ((bt l e : Nat) : Int))), kF, kF] [] [.inl 15, .inr 0, .inr 1] follows S3 rfl (by kernel_rfl) ?_ ?_
        · repeat' refine And.intro ?_ ?_
          · trivial
          · exact mS 1 1
          · exact mS 0 0
          · exact b_lens wA (oO 1 22)
          · exact b_lss_int_t wA (oO 0 21) (oO 2 23)
          · exact mO 3 24
          · exact mW (wI 4 25) (oS 0 0)
          · exact mW (wI 4 25) (oS 1 1)
          · exact b_idx (wI 4 25) (oO 5 26) (oO 6 27)
          · exact b_leq_u8_t (wI 4 25) (opnd_const _) (oO 7 28)
          · exact pT wA (oO 4 25) (oO 8 29)
          · exact mO 9 30
          · exact mW (wI 10 31) (oS 0 0)
          · exact mW (wI 10 31) (oS 1 1)
          · exact b_idx (wI 10 31) (oO 11 32) (oO 12 33)
          · exact b_leq_u8_f (wI 10 31) (oO 13 34) (opnd_const _)
          · exact pT wA (oO 10 31) (oO 14 35)
        intro B4 a4 W4 (S4 : Sta w 40 [] [(36, bF), (0, sV l), (1, iV (e : Nat))] _ _ _)
        refine wp_cond_false (S4.bool 0 36 rfl) ?_
        refine wp_exit ?_
        refine thenX ?_
        refine thenX ?_
        refine inBlkE ?_
        refine thenN ?_
        refine wp_stmt_seq [.val (iV (e : Nat)), .val (iV (e : Nat))] [] [.inl 1, .inr 1, .inr 2] follows S4 rfl (by kernel_rfl) ?_ ?_
        · refine ⟨⟨trivial, ?_⟩, ?_⟩
          · exact mS 2 1
          · exact mO 0 39
        intro B5 a5 W5 (S5 : Sta w 40 [] [(6, iV (e : Nat)), (0, sV l), (1, iV (e : Nat))] _ _ _)
        refine wp_ret ?_
        exact end_one S5 rfl (res_tmp S5 0 6 rfl)
  · skip
    refine wp_seq ?_
    refine wp_stmt_seq [.val (iV (fa : Nat)), .val (sV l), .val (iV ((l).length : Nat)), kF, kF, .off, .off, .off, .off, kF] [] [.inl 9, .inr 0, .inr 1, .inr 2] follows S1 rfl (by kernel_rfl) ?_ ?_
    · repeat' refine And.intro ?_ ?_
      · trivial
      · exact mS 1 1
      · exact mS 0 0
      · exact b_lens wA (oO 1 8)
      · exact b_lss_int_f wA (oO 0 7) (oO 2 9)
      · exact mO 3 10
      · exact oF 4 11
      · exact oF 4 11
      · exact oF 4 11
      · exact oF 4 11
      · exact pF wA (oO 4 11) (opnd_const _)
    intro B2 a2 W2 (S2 : Sta w 40 [] [(16, bF), (0, sV l), (1, iV (fa : Nat)), (2, bF)] _ _ _)
    refine wp_cond_false (S2.bool 0 16 rfl) ?_
    refine wp_skip ?_
    refine thenN ?_
    refine wp_seq ?_
    refine wp_block ?_
    refine wp_loop_ghost (fun (k0 : Nat) a W => (fa ≤ k0 ∧ k0 ≤ e) ∧ ∃ Bq, Sta w 40 [] [(0, sV l), (1, iV k0)] Bq a W) (fun (k0 : Nat) => e - k0) ?_ fa ⟨⟨Nat.le_refl _, g1⟩, B2, S2.sub [] [1, 2]⟩
    rintro k0 a3 W3 ⟨hcond, B3, S3⟩
    by_cases hlt : k0 < e
    · have hb := dgB_iff.1 (g3 k0 (by omega) hlt)
      have hbl := bt_lt l k0
      refine wp_seq ?_
      refine wp_stmt_seq [.val (iV k0), .val (sV l), .val (iV ((l).length : Nat)), kT, kT, .val (sV l), .val (iV k0), .val (Is (.int .u8 ((bt l k0 : Nat) : Int))), kT, kT, kT, .val (sV l), .val (iV k0), .val (Is (.int .u8 ((bt l k0 : Nat) : Int))), kT, kT] [] [.inl 15, .inr 0, .inr 1] follows S3 rfl (by kernel_rfl) ?_ ?_
      · repeat' refine And.intro ?_ ?_
        · trivial
        · exact mS 1 1
        · exact mS 0 0
        · exact b_lens wA (oO 1 22)
        · exact b_lss_int_t wA (oO 0 21) (oO 2 23)
        · exact mO 3 24
        · exact mW (wI 4 25) (oS 0 0)
        · exact mW (wI 4 25) (oS 1 1)
        · exact b_idx (wI 4 25) (oO 5 26) (oO 6 27)
        · exact b_leq_u8_t (wI 4 25) (opnd_const _) (oO 7 28)
        · exact pT wA (oO 4 25) (oO 8 29)
        · exact mO 9 30
        · exact mW (wI 10 31) (oS 0 0)
        · exact mW (wI 10 31) (oS 1 1)
        · exact b_idx (wI 10 31) (oO 11 32) (oO 12 33)
        · exact b_leq_u8_t (wI 10 31) (oO 13 34) (opnd_const _)
        · exact pT wA (oO 10 31) (oO 14 35)
      intro B4 a4 W4 (S4 : Sta w 40 [] [(36, bT), (0, sV l), (1, iV k0)] _ _ _)
      refine wp_cond_true (S4.bool 0 36 rfl) ?_
      refine wp_skip ?_
      refine thenN ?_
      refine wp_block ?_
      refine wp_stmt [.val (iV k0), .val (iV (k0 + 1 : Nat)), .val (iV (k0 + 1 : Nat))] [] [.inl 2, .inr 1] follows S4 rfl (by kernel_rfl) ?_ ?_
      · refine ⟨⟨⟨trivial, ?_⟩, ?_⟩, ?_⟩
        · exact mS 2 1
        · exact b_add_int wA (oO 0 37) (opnd_const _)
        · exact mO 1 38
      intro B5 a5 W5 (S5 : Sta w 40 [] [(1, iV (k0 + 1 : Nat)), (0, sV l)] _ _ _)
      refine inBlkN ?_
      refine thenN ?_
      exact ⟨k0 + 1, ⟨by omega, B5, S5.sub [] [1, 0]⟩, by omega⟩
    · have ek : k0 = e := by omega
      rw [ek] at S3
      rcases (show e = l.length ∨ (e < l.length ∧ bt l e < 48) ∨ (e < l.length ∧ 48 ≤ bt l e ∧ 57 < bt l e) from by rcases Nat.lt_or_ge e l.length with hh | hh; have := dgB_no.1 (g4 hh); omega; omega) with hq | ⟨hq, hq2⟩ | ⟨hq, hq2, hq3⟩
      · skip
        refine wp_seq ?_
        refine wp_stmt_seq [.val (iV (e : Nat)), .val (sV l), .val (iV ((l).length : Nat)), kF, kF, .off, .off, .off, .off, kF, kF, .off, .off, .off, .off, kF] [] [.inl 15, .inr 0, .inr 1] follows S3 rfl (by kernel_rfl) ?_ ?_
        · repeat' refine And.intro ?_ ?_
          · trivial
          · exact mS 1 1
          · exact mS 0 0
          · exact b_lens wA (oO 1 22)
          · exact b_lss_int_f wA (oO 0 21) (oO 2 23)
          · exact mO 3 24
          · exact oF 4 25
          · exact oF 4 25
          · exact oF 4 25
          · exact oF 4 25
          · exact pF wA (oO 4 25) (opnd_const _)
          · exact mO 9 30
          · exact oF 10 31
          · exact oF 10 31
          · exact oF 10 31
          · exact oF 10 31
          · exact pF wA (oO 10 31) (opnd_const _)
        intro B4 a4 W4 (S4 : Sta w 40 [] [(36, bF), (0, sV l), (1, iV (e : Nat))] _ _ _)
        refine wp_cond_false (S4.bool 0 36 rfl) ?_
        refine wp_exit ?_
        refine thenX ?_
        refine thenX ?_
        refine inBlkE ?_
        refine thenN ?_
        refine wp_stmt_seq [.val (iV (e : Nat)), .val (iV (e : Nat))] [] [.inl 1, .inr 1, .inr 2] follows S4 rfl (by kernel_rfl) ?_ ?_
        · refine ⟨⟨trivial, ?_⟩, ?_⟩
          · exact mS 2 1
          · exact mO 0 39
        intro B5 a5 W5 (S5 : Sta w 40 [] [(6, iV (e : Nat)), (0, sV l), (1, iV (e : Nat))] _ _ _)
        refine wp_ret ?_
        exact end_one S5 rfl (res_tmp S5 0 6 rfl)
      · skip
        refine wp_seq ?_
        refine wp_stmt_seq [.val (iV (e : Nat)), .val (sV l), .val (iV ((l).length : Nat)), kT, kT, .val (sV l), .val (iV (e : Nat)), .val (Is (.int .u8 ((bt l e : Nat) : Int))), kF, kF, kF, .off, .off, .off, .off, kF] [] [.inl 15, .inr 0, .inr 1] follows S3 rfl (by kernel_rfl) ?_ ?_
        · repeat' refine And.intro ?_ ?_
          · trivial
          · exact mS 1 1
          · exact mS 0 0
          · exact b_lens wA (oO 1 22)
          · exact b_lss_int_t wA (oO 0 21) (oO 2 23)
          · exact mO 3 24
          · exact mW (wI 4 25) (oS 0 0)
          · exact mW (wI 4 25) (oS 1 1)
          · exact b_idx (wI 4 25) (oO 5 26) (oO 6 27)
          · exact b_leq_u8_f (wI 4 25) (opnd_const _) (oO 7 28)
          · exact pT wA (oO 4 25) (oO 8 29)
          · exact mO 9 30
          · exact oF 10 31
          · exact oF 10 31
          · exact oF 10 31
          · exact oF 10 31
          · exact pF wA (oO 10 31) (opnd_const _)
        intro B4 a4 W4 (S4 : Sta w 40 [] [(36, bF), (0, sV l), (1, iV (e : Nat))] _ _ _)
        refine wp_cond_false (S4.bool 0 36 rfl) ?_
        refine wp_exit ?_
        refine thenX ?_
        refine thenX ?_
        refine inBlkE ?_
        refine thenN ?_
        refine wp_stmt_seq [.val (iV (e : Nat)), .val (iV (e : Nat))] [] [.inl 1, .inr 1, .inr 2] follows S4 rfl (by kernel_rfl) ?_ ?_
        · refine ⟨⟨trivial, ?_⟩, ?_⟩
          · exact mS 2 1
          · exact mO 0 39
        intro B5 a5 W5 (S5 : Sta w 40 [] [(6, iV (e : Nat)), (0, sV l), (1, iV (e : Nat))] _ _ _)
        refine wp_ret ?_
        exact end_one S5 rfl (res_tmp S5 0 6 rfl)
      · skip
        refine wp_seq ?_
        refine wp_stmt_seq [.val (iV (e : Nat)), .val (sV l), .val (iV ((l).length : Nat)), kT, kT, .val (sV l), .val (iV (e : Nat)), .val (Is (.int .u8 ((bt l e : Nat) : Int))), kT, kT, kT, .val (sV l), .val (iV (e : Nat)), .val (Is (.int .u8 ((bt l e : Nat) : Int))), kF, kF] [] [.inl 15, .inr 0, .inr 1] follows S3 rfl (by kernel_rfl) ?_ ?_
        · repeat' refine And.intro ?_ ?_
          · trivial
          · exact mS 1 1
          · exact mS 0 0
          · exact b_lens wA (oO 1 22)
          · exact b_lss_int_t wA (oO 0 21) (oO 2 23)
          · exact mO 3 24
          · exact mW (wI 4 25) (oS 0 0)
          · exact mW (wI 4 25) (oS 1 1)
          · exact b_idx (wI 4 25) (oO 5 26) (oO 6 27)
          · exact b_leq_u8_t (wI 4 25) (opnd_const _) (oO 7 28)
          · exact pT wA (oO 4 25) (oO 8 29)
          · exact mO 9 30
          · exact mW (wI 10 31) (oS 0 0)
          · exact mW (wI 10 31) (oS 1 1)
          · exact b_idx (wI 10 31) (oO 11 32) (oO 12 33)
          · exact b_leq_u8_f (wI 10 31) (oO 13 34) (opnd_const _)
          · exact pT wA (oO 10 31) (oO 14 35)
        intro B4 a4 W4 (S4 : Sta w 40 [] [(36, bF), (0, sV l), (1, iV (e : Nat))] _ _ _)
        refine wp_cond_false (S4.bool 0 36 rfl) ?_
        refine wp_exit ?_
        refine thenX ?_
        refine thenX ?_
        refine inBlkE ?_
        refine thenN ?_
        refine wp_stmt_seq [.val (iV (e : Nat)), .val (iV (e : Nat))] [] [.inl 1, .inr 1, .inr 2] follows S4 rfl (by kernel_rfl) ?_ ?_
        · refine ⟨⟨trivial, ?_⟩, ?_⟩
          · exact mS 2 1
          · exact mO 0 39
        intro B5 a5 W5 (S5 : Sta w 40 [] [(6, iV (e : Nat)), (0, sV l), (1, iV (e : Nat))] _ _ _)
        refine wp_ret ?_
        exact end_one S5 rfl (res_tmp S5 0 6 rfl)

set_option maxHeartbeats 400000 in
theorem shasp_w (w : World) (l : List UInt8) :
    Calls Tryz.prog 49 #[str l, str ([45])] w (Gives (IS (.bool (isN l))) w) := by
  refine calls_sta (sl := [(0, (sV l)), (1, (sV ([45])))]) Tryz.func49 rfl Tryz.ntmps49 (by simp) (args_cons rfl (is_has _) (args_cons rfl (is_has _) args_nil)) ?_
  intro a0 S0
  refine wp_stmt_seq [kF] [] [.inr 0, .inr 1] follows S0 rfl (by kernel_rfl) ?_ ?_
  · refine ⟨trivial, ?_⟩
    · exact mC
  intro B1 a1 W1 (S1 : Sta w 8 [] [(0, sV l), (1, sV ([45]))] _ _ _)
  refine wp_stmt_seq [.val (sV l), .val (sV ([45])), .val (Is (.bool (isN l))), .val (Is (.bool (isN l)))] [] [.inl 3] follows S1 rfl (by kernel_rfl) ?_ ?_
  · refine ⟨⟨⟨⟨trivial, ?_⟩, ?_⟩, ?_⟩, ?_⟩
    · exact mS 0 0
    · exact mS 1 1
    · exact ch2 wA (qO 0 5 rfl) (qO 1 6 rfl) (fresh_is _) (fun w u0 u1 hx0 hx1 => by obtain rfl : u0 = _ := hx0.now; obtain rfl : u1 = _ := hx1.now; exact hasp_w w l)
    · exact mO 2 7
  intro B2 a2 W2 (S2 : Sta w 8 [] [(4, Is (.bool (isN l)))] _ _ _)
  refine wp_ret ?_
  exact end_one S2 rfl (res_tmp S2 0 4 rfl)

set_option maxHeartbeats 1000000 in
theorem end_no_n (w : World) (l : List UInt8) (hl : l.length ≤ 131072) (hN : isN l = true) (h : NE l 1 false 1) :
    Calls Tryz.prog 23 #[str l] w (Gives (TWO (IS (.int .i64 (1 : Nat))) (IS (.bool false))) w) := by
  have hf0 : 1 ≤ l.length := (isN_t hN).1
  refine calls_sta (sl := [(0, (sV l))]) Tryz.func23 rfl Tryz.ntmps23 (by simp) (args_cons rfl (is_has _) args_nil) ?_
  intro a0 S0
  refine wp_stmt_seq [.val (iV 0), kF] [] [.inr 0] follows S0 rfl (by kernel_rfl) ?_ ?_
  · refine ⟨⟨trivial, ?_⟩, ?_⟩
    · exact mC
    · exact mC
  intro B1 a1 W1 (S1 : Sta w 43 [] [(0, sV l)] _ _ _)
  refine wp_stmt_seq [.val (iV 0)] [] [.inl 0, .inr 0] follows S1 rfl (by kernel_rfl) ?_ ?_
  · refine ⟨trivial, ?_⟩
    · exact mC
  intro B2 a2 W2 (S2 : Sta w 43 [] [(4, iV 0), (0, sV l)] _ _ _)
  refine wp_seq ?_
  refine wp_stmt_seq [.val (sV l), kT] [] [.inl 1, .inr 0, .inr 1] follows S2 rfl (by kernel_rfl) ?_ ?_
  · refine ⟨⟨trivial, ?_⟩, ?_⟩
    · exact mS 1 0
    · exact ch2 wA (qO 0 6 rfl) ((opnd_const _).imp (fun _ _ h => h)) (fresh_is _) (fun w u0 u1 hx0 hx1 => by obtain rfl : u0 = _ := hx0.now; obtain rfl : u1 = _ := hx1.now; have := shasp_w w l; rw [hN] at this; exact this)
  intro B3 a3 W3 (S3 : Sta w 43 [] [(7, bT), (4, iV 0), (0, sV l)] _ _ _)
  refine wp_cond_true (S3.bool 0 7 rfl) ?_
  refine wp_stmt [.val (iV 1)] [] [.inl 0, .inr 2] follows S3 rfl (by kernel_rfl) ?_ ?_
  · refine ⟨trivial, ?_⟩
    · exact mC
  intro B4 a4 W4 (S4 : Sta w 43 [] [(4, iV 1), (0, sV l)] _ _ _)
  refine thenN ?_
  refine wp_stmt_seq [.val (sV l), .val (iV 1), .val (iV 1), kF, .val (iV (1 : Nat)), .val (iV (1 : Nat))] [] [.inl 5, .inr 0, .inr 1] follows S4 rfl (by kernel_rfl) ?_ ?_
  · refine ⟨⟨⟨⟨⟨⟨trivial, ?_⟩, ?_⟩, ?_⟩, ?_⟩, ?_⟩, ?_⟩
    · exact mS 1 0
    · exact mS 0 4
    · exact mS 0 4
    · exact b_eql_int_f wA (oO 2 10) (opnd_const _) (h := by decide)
    · exact ch3 wA (qO 0 8 rfl) (qO 1 9 rfl) (qO 3 11 rfl) (fresh_is _) (fun w u0 u1 u2 hx0 hx1 hx2 => by obtain rfl : u0 = _ := hx0.now; obtain rfl : u1 = _ := hx1.now; obtain rfl : u2 = _ := hx2.now; exact nend_f w l 1 (1) hl hf0 h)
    · exact mO 4 12
  intro B5 a5 W5 (S5 : Sta w 43 [] [(5, iV (1 : Nat)), (4, iV 1), (0, sV l)] _ _ _)
  refine wp_seq ?_
  refine wp_stmt_seq [.val (iV (1 : Nat)), .val (iV 1), kF, kF, .off, .off, .off, .off, kF, kF, .off, .off, .off, .off, kF] [] [.inl 14, .inr 0, .inr 1, .inr 2] follows S5 rfl (by kernel_rfl) ?_ ?_
  · repeat' refine And.intro ?_ ?_
    · trivial
    · exact mS 0 5
    · exact mS 1 4
    · exact b_gtr_int_f wA (oO 0 13) (oO 1 14)
    · exact mO 2 15
    · exact oF 3 16
    · exact oF 3 16
    · exact oF 3 16
    · exact oF 3 16
    · exact pF wA (oO 3 16) (opnd_const _)
    · exact mO 8 21
    · exact oF 9 22
    · exact oF 9 22
    · exact oF 9 22
    · exact oF 9 22
    · exact pF wA (oO 9 22) (opnd_const _)
  intro B6 a6 W6 (S6 : Sta w 43 [] [(27, bF), (5, iV (1 : Nat)), (4, iV 1), (0, sV l)] _ _ _)
  refine wp_cond_false (S6.bool 0 27 rfl) ?_
  refine wp_skip ?_
  refine thenN ?_
  refine wp_stmt_seq [.val (iV (1 : Nat)), .val (iV (1 : Nat)), .val (iV 1), kF, kF, .off, .off, .off, .off, kF, .val (iV (1 : Nat)), kF] [] [.inl 10, .inl 11] follows S6 rfl (by kernel_rfl) ?_ ?_
  · repeat' refine And.intro ?_ ?_
    · trivial
    · exact mS 1 5
    · exact mS 1 5
    · exact mS 2 4
    · exact b_gtr_int_f wA (oO 1 34) (oO 2 35)
    · exact mO 3 36
    · exact oF 4 37
    · exact oF 4 37
    · exact oF 4 37
    · exact oF 4 37
    · exact pF wA (oO 4 37) (opnd_const _)
    · exact mO 0 33
    · exact mO 9 42
  intro B7 a7 W7 (S7 : Sta w 43 [] [(2, iV (1 : Nat)), (3, bF)] _ _ _)
  refine wp_ret ?_
  exact end_two S7 rfl (res_tmp S7 0 2 rfl) (res_tmp S7 1 3 rfl)

set_option maxHeartbeats 1000000 in
theorem end_whole_n (w : World) (l : List UInt8) (hl : l.length ≤ 131072) (hN : isN l = true) (h : NE l 1 false l.length) (h1 : 1 < l.length) :
    Calls Tryz.prog 23 #[str l] w (Gives (TWO (IS (.int .i64 (l.length : Nat))) (IS (.bool true))) w) := by
  have hf0 : 1 ≤ l.length := (isN_t hN).1
  refine calls_sta (sl := [(0, (sV l))]) Tryz.func23 rfl Tryz.ntmps23 (by simp) (args_cons rfl (is_has _) args_nil) ?_
  intro a0 S0
  refine wp_stmt_seq [.val (iV 0), kF] [] [.inr 0] follows S0 rfl (by kernel_rfl) ?_ ?_
  · refine ⟨⟨trivial, ?_⟩, ?_⟩
    · exact mC
    · exact mC
  intro B1 a1 W1 (S1 : Sta w 43 [] [(0, sV l)] _ _ _)
  refine wp_stmt_seq [.val (iV 0)] [] [.inl 0, .inr 0] follows S1 rfl (by kernel_rfl) ?_ ?_
  · refine ⟨trivial, ?_⟩
    · exact mC
  intro B2 a2 W2 (S2 : Sta w 43 [] [(4, iV 0), (0, sV l)] _ _ _)
  refine wp_seq ?_
  refine wp_stmt_seq [.val (sV l), kT] [] [.inl 1, .inr 0, .inr 1] follows S2 rfl (by kernel_rfl) ?_ ?_
  · refine ⟨⟨trivial, ?_⟩, ?_⟩
    · exact mS 1 0
    · exact ch2 wA (qO 0 6 rfl) ((opnd_const _).imp (fun _ _ h => h)) (fresh_is _) (fun w u0 u1 hx0 hx1 => by obtain rfl : u0 = _ := hx0.now; obtain rfl : u1 = _ := hx1.now; have := shasp_w w l; rw [hN] at this; exact this)
  intro B3 a3 W3 (S3 : Sta w 43 [] [(7, bT), (4, iV 0), (0, sV l)] _ _ _)
  refine wp_cond_true (S3.bool 0 7 rfl) ?_
  refine wp_stmt [.val (iV 1)] [] [.inl 0, .inr 2] follows S3 rfl (by kernel_rfl) ?_ ?_
  · refine ⟨trivial, ?_⟩
    · exact mC
  intro B4 a4 W4 (S4 : Sta w 43 [] [(4, iV 1), (0, sV l)] _ _ _)
  refine thenN ?_
  refine wp_stmt_seq [.val (sV l), .val (iV 1), .val (iV 1), kF, .val (iV (l.length : Nat)), .val (iV (l.length : Nat))] [] [.inl 5, .inr 0, .inr 1] follows S4 rfl (by kernel_rfl) ?_ ?_
  · refine ⟨⟨⟨⟨⟨⟨trivial, ?_⟩, ?_⟩, ?_⟩, ?_⟩, ?_⟩, ?_⟩
    · exact mS 1 0
    · exact mS 0 4
    · exact mS 0 4
    · exact b_eql_int_f wA (oO 2 10) (opnd_const _) (h := by decide)
    · exact ch3 wA (qO 0 8 rfl) (qO 1 9 rfl) (qO 3 11 rfl) (fresh_is _) (fun w u0 u1 u2 hx0 hx1 hx2 => by obtain rfl : u0 = _ := hx0.now; obtain rfl : u1 = _ := hx1.now; obtain rfl : u2 = _ := hx2.now; exact nend_f w l 1 (l.length) hl hf0 h)
    · exact mO 4 12
  intro B5 a5 W5 (S5 : Sta w 43 [] [(5, iV (l.length : Nat)), (4, iV 1), (0, sV l)] _ _ _)
  refine wp_seq ?_
  refine wp_stmt_seq [.val (iV (l.length : Nat)), .val (iV 1), kT, kT, .val (iV (l.length : Nat)), .val (sV l), .val (iV ((l).length : Nat)), kF, kF, kF, .off, .off, .off, .off, kF] [] [.inl 14, .inr 0, .inr 1, .inr 2] follows S5 rfl (by kernel_rfl) ?_ ?_
  · repeat' refine And.intro ?_ ?_
    · trivial
    · exact mS 0 5
    · exact mS 1 4
    · exact b_gtr_int_t wA (oO 0 13) (oO 1 14)
    · exact mO 2 15
    · exact mW (wI 3 16) (oS 0 5)
    · exact mW (wI 3 16) (oS 2 0)
    · exact b_lens (wI 3 16) (oO 5 18)
    · exact b_lss_int_f (wI 3 16) (oO 4 17) (oO 6 19)
    · exact pT wA (oO 3 16) (oO 7 20)
    · exact mO 8 21
    · exact oF 9 22
    · exact oF 9 22
    · exact oF 9 22
    · exact oF 9 22
    · exact pF wA (oO 9 22) (opnd_const _)
  intro B6 a6 W6 (S6 : Sta w 43 [] [(27, bF), (5, iV (l.length : Nat)), (4, iV 1), (0, sV l)] _ _ _)
  refine wp_cond_false (S6.bool 0 27 rfl) ?_
  refine wp_skip ?_
  refine thenN ?_
  refine wp_stmt_seq [.val (iV (l.length : Nat)), .val (iV (l.length : Nat)), .val (iV 1), kT, kT, .val (iV (l.length : Nat)), .val (sV l), .val (iV ((l).length : Nat)), kT, kT, .val (iV (l.length : Nat)), kT] [] [.inl 10, .inl 11] follows S6 rfl (by kernel_rfl) ?_ ?_
  · repeat' refine And.intro ?_ ?_
    · trivial
    · exact mS 1 5
    · exact mS 1 5
    · exact mS 2 4
    · exact b_gtr_int_t wA (oO 1 34) (oO 2 35)
    · exact mO 3 36
    · exact mW (wI 4 37) (oS 1 5)
    · exact mW (wI 4 37) (oS 3 0)
    · exact b_lens (wI 4 37) (oO 6 39)
    · exact b_eql_int_t (wI 4 37) (oO 5 38) (oO 7 40)
    · exact pT wA (oO 4 37) (oO 8 41)
    · exact mO 0 33
    · exact mO 9 42
  intro B7 a7 W7 (S7 : Sta w 43 [] [(2, iV (l.length : Nat)), (3, bT)] _ _ _)
  refine wp_ret ?_
  exact end_two S7 rfl (res_tmp S7 0 2 rfl) (res_tmp S7 1 3 rfl)

set_option maxHeartbeats 1000000 in
theorem end_tail_n (w : World) (l : List UInt8) (hl : l.length ≤ 131072) (hN : isN l = true) (e : Nat) (h : NE l 1 false e) (h1 : 1 < e) (h2 : e < l.length) (h3 : bt l e ≠ 47) :
    Calls Tryz.prog 23 #[str l] w (Gives (TWO (IS (.int .i64 (e : Nat))) (IS (.bool false))) w) := by
  have hf0 : 1 ≤ l.length := (isN_t hN).1
  refine calls_sta (sl := [(0, (sV l))]) Tryz.func23 rfl Tryz.ntmps23 (by simp) (args_cons rfl (is_has _) args_nil) ?_
  intro a0 S0
  refine wp_stmt_seq [.val (iV 0), kF] [] [.inr 0] follows S0 rfl (by kernel_rfl) ?_ ?_
  · refine ⟨⟨trivial, ?_⟩, ?_⟩
    · exact mC
    · exact mC
  intro B1 a1 W1 (S1 : Sta w 43 [] [(0, sV l)] _ _ _)
  refine wp_stmt_seq [.val (iV 0)] [] [.inl 0, .inr 0] follows S1 rfl (by kernel_rfl) ?_ ?_
  · refine ⟨trivial, ?_⟩
    · exact mC
  intro B2 a2 W2 (S2 : Sta w 43 [] [(4, iV 0), (0, sV l)] _ _ _)
  refine wp_seq ?_
  refine wp_stmt_seq [.val (sV l), kT] [] [.inl 1, .inr 0, .inr 1] follows S2 rfl (by kernel_rfl) ?_ ?_
  · refine ⟨⟨trivial, ?_⟩, ?_⟩
    · exact mS 1 0
    · exact ch2 wA (qO 0 6 rfl) ((opnd_const _).imp (fun _ _ h => h)) (fresh_is _) (fun w u0 u1 hx0 hx1 => by obtain rfl : u0 = _ := hx0.now; obtain rfl : u1 = _ := hx1.now; have := shasp_w w l; rw [hN] at this; exact this)
  intro B3 a3 W3 (S3 : Sta w 43 [] [(7, bT), (4, iV 0), (0, sV l)] _ _ _)
  refine wp_cond_true (S3.bool 0 7 rfl) ?_
  refine wp_stmt [.val (iV 1)] [] [.inl 0, .inr 2] follows S3 rfl (by kernel_rfl) ?_ ?_
  · refine ⟨trivial, ?_⟩
    · exact mC
  intro B4 a4 W4 (S4 : Sta w 43 [] [(4, iV 1), (0, sV l)] _ _ _)
  refine thenN ?_
  refine wp_stmt_seq [.val (sV l), .val (iV 1), .val (iV 1), kF, .val (iV (e : Nat)), .val (iV (e : Nat))] [] [.inl 5, .inr 0, .inr 1] follows S4 rfl (by kernel_rfl) ?_ ?_
  · refine ⟨⟨⟨⟨⟨⟨trivial, ?_⟩, ?_⟩, ?_⟩, ?_⟩, ?_⟩, ?_⟩
    · exact mS 1 0
    · exact mS 0 4
    · exact mS 0 4
    · exact b_eql_int_f wA (oO 2 10) (opnd_const _) (h := by decide)
    · exact ch3 wA (qO 0 8 rfl) (qO 1 9 rfl) (qO 3 11 rfl) (fresh_is _) (fun w u0 u1 u2 hx0 hx1 hx2 => by obtain rfl : u0 = _ := hx0.now; obtain rfl : u1 = _ := hx1.now; obtain rfl : u2 = _ := hx2.now; exact nend_f w l 1 (e) hl hf0 h)
    · exact mO 4 12
  intro B5 a5 W5 (S5 : Sta w 43 [] [(5, iV (e : Nat)), (4, iV 1), (0, sV l)] _ _ _)
  refine wp_seq ?_
  refine wp_stmt_seq [.val (iV (e : Nat)), .val (iV 1), kT, kT, .val (iV (e : Nat)), .val (sV l), .val (iV ((l).length : Nat)), kT, kT, kT, .val (sV l), .val (iV (e : Nat)), .val (Is (.int .u8 ((bt l e : Nat) : Int))), kF, kF] [] [.inl 14, .inr 0, .inr 1, .inr 2] follows S5 rfl (by kernel_rfl) ?_ ?_
  · repeat' refine And.intro ?_ ?_
    · trivial
    · exact mS 0 5
    · exact mS 1 4
    · exact b_gtr_int_t wA (oO 0 13) (oO 1 14)
    · exact mO 2 15
    · exact mW (wI 3 16) (oS 0 5)
    · exact mW (wI 3 16) (oS 2 0)
    · exact b_lens (wI 3 16) (oO 5 18)
    · exact b_lss_int_t (wI 3 16) (oO 4 17) (oO 6 19)
    · exact pT wA (oO 3 16) (oO 7 20)
    · exact mO 8 21
    · exact mW (wI 9 22) (oS 2 0)
    · exact mW (wI 9 22) (oS 0 5)
    · exact b_idx (wI 9 22) (oO 10 23) (oO 11 24)
    · exact b_eql_u8_f (wI 9 22) (oO 12 25) (opnd_const _)
    · exact pT wA (oO 9 22) (oO 13 26)
  intro B6 a6 W6 (S6 : Sta w 43 [] [(27, bF), (5, iV (e : Nat)), (4, iV 1), (0, sV l)] _ _ _)
  refine wp_cond_false (S6.bool 0 27 rfl) ?_
  refine wp_skip ?_
  refine thenN ?_
  refine wp_stmt_seq [.val (iV (e : Nat)), .val (iV (e : Nat)), .val (iV 1), kT, kT, .val (iV (e : Nat)), .val (sV l), .val (iV ((l).length : Nat)), kF, kF, .val (iV (e : Nat)), kF] [] [.inl 10, .inl 11] follows S6 rfl (by kernel_rfl) ?_ ?_
  · repeat' refine And.intro ?_ ?_
    · trivial
    · exact mS 1 5
    · exact mS 1 5
    · exact mS 2 4
    · exact b_gtr_int_t wA (oO 1 34) (oO 2 35)
    · exact mO 3 36
    · exact mW (wI 4 37) (oS 1 5)
    · exact mW (wI 4 37) (oS 3 0)
    · exact b_lens (wI 4 37) (oO 6 39)
    · exact b_eql_int_f (wI 4 37) (oO 5 38) (oO 7 40)
    · exact pT wA (oO 4 37) (oO 8 41)
    · exact mO 0 33
    · exact mO 9 42
  intro B7 a7 W7 (S7 : Sta w 43 [] [(2, iV (e : Nat)), (3, bF)] _ _ _)
  refine wp_ret ?_
  exact end_two S7 rfl (res_tmp S7 0 2 rfl) (res_tmp S7 1 3 rfl)

set_option maxHeartbeats 1000000 in
theorem end_noden_n (w : World) (l : List UInt8) (hl : l.length ≤ 131072) (hN : isN l = true) (e : Nat) (h : NE l 1 false e) (h1 : 1 < e) (h2 : e < l.length) (h3 : bt l e = 47) (hd : NE l (e + 1) false (e + 1)) :
    Calls Tryz.prog 23 #[str l] w (Gives (TWO (IS (.int .i64 (e + 1 : Nat))) (IS (.bool false))) w) := by
  have hf0 : 1 ≤ l.length := (isN_t hN).1
  refine calls_sta (sl := [(0, (sV l))]) Tryz.func23 rfl Tryz.ntmps23 (by simp) (args_cons rfl (is_has _) args_nil) ?_
  intro a0 S0
  refine wp_stmt_seq [.val (iV 0), kF] [] [.inr 0] follows S0 rfl (by kernel_rfl) ?_ ?_
  · refine ⟨⟨trivial, ?_⟩, ?_⟩
    · exact mC
    · exact mC
  intro B1 a1 W1 (S1 : Sta w 43 [] [(0, sV l)] _ _ _)
  refine wp_stmt_seq [.val (iV 0)] [] [.inl 0, .inr 0] follows S1 rfl (by kernel_rfl) ?_ ?_
  · refine ⟨trivial, ?_⟩
    · exact mC
  intro B2 a2 W2 (S2 : Sta w 43 [] [(4, iV 0), (0, sV l)] _ _ _)
  refine wp_seq ?_
  refine wp_stmt_seq [.val (sV l), kT] [] [.inl 1, .inr 0, .inr 1] follows S2 rfl (by kernel_rfl) ?_ ?_
  · refine ⟨⟨trivial, ?_⟩, ?_⟩
    · exact mS 1 0
    · exact ch2 wA (qO 0 6 rfl) ((opnd_const _).imp (fun _ _ h => h)) (fresh_is _) (fun w u0 u1 hx0 hx1 => by obtain rfl : u0 = _ := hx0.now; obtain rfl : u1 = _ := hx1.now; have := shasp_w w l; rw [hN] at this; exact this)
  intro B3 a3 W3 (S3 : Sta w 43 [] [(7, bT), (4, iV 0), (0, sV l)] _ _ _)
  refine wp_cond_true (S3.bool 0 7 rfl) ?_
  refine wp_stmt [.val (iV 1)] [] [.inl 0, .inr 2] follows S3 rfl (by kernel_rfl) ?_ ?_
  · refine ⟨trivial, ?_⟩
    · exact mC
  intro B4 a4 W4 (S4 : Sta w 43 [] [(4, iV 1), (0, sV l)] _ _ _)
  refine thenN ?_
  refine wp_stmt_seq [.val (sV l), .val (iV 1), .val (iV 1), kF, .val (iV (e : Nat)), .val (iV (e : Nat))] [] [.inl 5, .inr 0, .inr 1] follows S4 rfl (by kernel_rfl) ?_ ?_
  · refine ⟨⟨⟨⟨⟨⟨trivial, ?_⟩, ?_⟩, ?_⟩, ?_⟩, ?_⟩, ?_⟩
    · exact mS 1 0
    · exact mS 0 4
    · exact mS 0 4
    · exact b_eql_int_f wA (oO 2 10) (opnd_const _) (h := by decide)
    · exact ch3 wA (qO 0 8 rfl) (qO 1 9 rfl) (qO 3 11 rfl) (fresh_is _) (fun w u0 u1 u2 hx0 hx1 hx2 => by obtain rfl : u0 = _ := hx0.now; obtain rfl : u1 = _ := hx1.now; obtain rfl : u2 = _ := hx2.now; exact nend_f w l 1 (e) hl hf0 h)
    · exact mO 4 12
  intro B5 a5 W5 (S5 : Sta w 43 [] [(5, iV (e : Nat)), (4, iV 1), (0, sV l)] _ _ _)
  refine wp_seq ?_
  refine wp_stmt_seq [.val (iV (e : Nat)), .val (iV 1), kT, kT, .val (iV (e : Nat)), .val (sV l), .val (iV ((l).length : Nat)), kT, kT, kT, .val (sV l), .val (iV (e : Nat)), .val (Is (.int .u8 ((bt l e : Nat) : Int))), kT, kT] [] [.inl 14, .inr 0, .inr 1, .inr 2] follows S5 rfl (by kernel_rfl) ?_ ?_
  · repeat' refine And.intro ?_ ?_
    · trivial
    · exact mS 0 5
    · exact mS 1 4
    · exact b_gtr_int_t wA (oO 0 13) (oO 1 14)
    · exact mO 2 15
    · exact mW (wI 3 16) (oS 0 5)
    · exact mW (wI 3 16) (oS 2 0)
    · exact b_lens (wI 3 16) (oO 5 18)
    · exact b_lss_int_t (wI 3 16) (oO 4 17) (oO 6 19)
    · exact pT wA (oO 3 16) (oO 7 20)
    · exact mO 8 21
    · exact mW (wI 9 22) (oS 2 0)
    · exact mW (wI 9 22) (oS 0 5)
    · exact b_idx (wI 9 22) (oO 10 23) (oO 11 24)
    · exact b_eql_u8_t (wI 9 22) (oO 12 25) (opnd_const _)
    · exact pT wA (oO 9 22) (oO 13 26)
  intro B6 a6 W6 (S6 : Sta w 43 [] [(27, bT), (5, iV (e : Nat)), (4, iV 1), (0, sV l)] _ _ _)
  refine wp_cond_true (S6.bool 0 27 rfl) ?_
  refine wp_stmt_seq [.val (iV (e : Nat)), .val (iV ((e + 1 : Nat) : Int)), .val (iV ((e + 1 : Nat) : Int))] [] [.inl 2, .inr 3] follows S6 rfl (by kernel_rfl) ?_ ?_
  · refine ⟨⟨⟨trivial, ?_⟩, ?_⟩, ?_⟩
    · exact mS 1 5
    · exact b_add_int wA (oO 0 28) (opnd_const _)
    · exact mO 1 29
  intro B7 a7 W7 (S7 : Sta w 43 [] [(4, iV ((e + 1 : Nat) : Int)), (0, sV l)] _ _ _)
  refine wp_stmt [.val (sV l), .val (iV ((e + 1 : Nat) : Int)), .val (iV (e + 1 : Nat)), .val (iV (e + 1 : Nat))] [] [.inl 3, .inr 0, .inr 1] follows S7 rfl (by kernel_rfl) ?_ ?_
  · refine ⟨⟨⟨⟨trivial, ?_⟩, ?_⟩, ?_⟩, ?_⟩
    · exact mS 1 0
    · exact mS 0 4
    · exact ch3 wA (qO 0 30 rfl) (qO 1 31 rfl) (opnd_const _) (fresh_is _) (fun w u0 u1 u2 hx0 hx1 hx2 => by obtain rfl : u0 = _ := hx0.now; obtain rfl : u1 = _ := hx1.now; obtain rfl : u2 = _ := hx2.now; exact nend_f w l (e + 1) (e + 1) hl (by omega) hd)
    · exact mO 2 32
  intro B8 a8 W8 (S8 : Sta w 43 [] [(5, iV (e + 1 : Nat)), (4, iV ((e + 1 : Nat) : Int)), (0, sV l)] _ _ _)
  refine thenN ?_
  refine wp_stmt_seq [.val (iV (e + 1 : Nat)), .val (iV (e + 1 : Nat)), .val (iV ((e + 1 : Nat) : Int)), kF, kF, .off, .off, .off, .off, kF, .val (iV (e + 1 : Nat)), kF] [] [.inl 10, .inl 11] follows S8 rfl (by kernel_rfl) ?_ ?_
  · repeat' refine And.intro ?_ ?_
    · trivial
    · exact mS 0 5
    · exact mS 0 5
    · exact mS 1 4
    · exact b_gtr_int_f wA (oO 1 34) (oO 2 35)
    · exact mO 3 36
    · exact oF 4 37
    · exact oF 4 37
    · exact oF 4 37
    · exact oF 4 37
    · exact pF wA (oO 4 37) (opnd_const _)
    · exact mO 0 33
    · exact mO 9 42
  intro B9 a9 W9 (S9 : Sta w 43 [] [(2, iV (e + 1 : Nat)), (3, bF)] _ _ _)
  refine wp_ret ?_
  exact end_two S9 rfl (res_tmp S9 0 2 rfl) (res_tmp S9 1 3 rfl)

set_option maxHeartbeats 1000000 in
theorem end_dtail_n (w : World) (l : List UInt8) (hl : l.length ≤ 131072) (hN : isN l = true) (e : Nat) (h : NE l 1 false e) (h1 : 1 < e) (h2 : e < l.length) (h3 : bt l e = 47) (d : Nat) (hd : NE l (e + 1) false d) (h4 : e + 1 < d) (h5 : d < l.length) :
    Calls Tryz.prog 23 #[str l] w (Gives (TWO (IS (.int .i64 (d : Nat))) (IS (.bool false))) w) := by
  have hf0 : 1 ≤ l.length := (isN_t hN).1
  refine calls_sta (sl := [(0, (sV l))]) Tryz.func23 rfl Tryz.ntmps23 (by simp) (args_cons rfl (is_has _) args_nil) ?_
  intro a0 S0
  refine wp_stmt_seq [.val (iV 0), kF] [] [.inr 0] follows S0 rfl (by kernel_rfl) ?_ ?_
  · refine ⟨⟨trivial, ?_⟩, ?_⟩
    · exact mC
    · exact mC
  intro B1 a1 W1 (S1 : Sta w 43 [] [(0, sV l)] _ _ _)
  refine wp_stmt_seq [.val (iV 0)] [] [.inl 0, .inr 0] follows S1 rfl (by kernel_rfl) ?_ ?_
  · refine ⟨trivial, ?_⟩
    · exact mC
  intro B2 a2 W2 (S2 : Sta w 43 [] [(4, iV 0), (0, sV l)] _ _ _)
  refine wp_seq ?_
  refine wp_stmt_seq [.val (sV l), kT] [] [.inl 1, .inr 0, .inr 1] follows S2 rfl (by kernel_rfl) ?_ ?_
  · refine ⟨⟨trivial, ?_⟩, ?_⟩
    · exact mS 1 0
    · exact ch2 wA (qO 0 6 rfl) ((opnd_const _).imp (fun _ _ h => h)) (fresh_is _) (fun w u0 u1 hx0 hx1 => by obtain rfl : u0 = _ := hx0.now; obtain rfl : u1 = _ := hx1.now; have := shasp_w w l; rw [hN] at this; exact this)
  intro B3 a3 W3 (S3 : Sta w 43 [] [(7, bT), (4, iV 0), (0, sV l)] _ _ _)
  refine wp_cond_true (S3.bool 0 7 rfl) ?_
  refine wp_stmt [.val (iV 1)] [] [.inl 0, .inr 2] follows S3 rfl (by kernel_rfl) ?_ ?_
  · refine ⟨trivial, ?_⟩
    · exact mC
  intro B4 a4 W4 (S4 : Sta w 43 [] [(4, iV 1), (0, sV l)] _ _ _)
  refine thenN ?_
  refine wp_stmt_seq [.val (sV l), .val (iV 1), .val (iV 1), kF, .val (iV (e : Nat)), .val (iV (e : Nat))] [] [.inl 5, .inr 0, .inr 1] follows S4 rfl (by kernel_rfl) ?_ ?_
  · refine ⟨⟨⟨⟨⟨⟨trivial, ?_⟩, ?_⟩, ?_⟩, ?_⟩, ?_⟩, ?_⟩
    · exact mS 1 0
    · exact mS 0 4
    · exact mS 0 4
    · exact b_eql_int_f wA (oO 2 10) (opnd_const _) (h := by decide)
    · exact ch3 wA (qO 0 8 rfl) (qO 1 9 rfl) (qO 3 11 rfl) (fresh_is _) (fun w u0 u1 u2 hx0 hx1 hx2 => by obtain rfl : u0 = _ := hx0.now; obtain rfl : u1 = _ := hx1.now; obtain rfl : u2 = _ := hx2.now; exact nend_f w l 1 (e) hl hf0 h)
    · exact mO 4 12
  intro B5 a5 W5 (S5 : Sta w 43 [] [(5, iV (e : Nat)), (4, iV 1), (0, sV l)] _ _ _)
  refine wp_seq ?_
  refine wp_stmt_seq [.val (iV (e : Nat)), .val (iV 1), kT, kT, .val (iV (e : Nat)), .val (sV l), .val (iV ((l).length : Nat)), kT, kT, kT, .val (sV l), .val (iV (e : Nat)), .val (Is (.int .u8 ((bt l e : Nat) : Int))), kT, kT] [] [.inl 14, .inr 0, .inr 1, .inr 2] follows S5 rfl (by kernel_rfl) ?_ ?_
  · repeat' refine And.intro ?_ ?_
    · trivial
    · exact mS 0 5
    · exact mS 1 4
    · exact b_gtr_int_t wA (oO 0 13) (oO 1 14)
    · exact mO 2 15
    · exact mW (wI 3 16) (oS 0 5)
    · exact mW (wI 3 16) (oS 2 0)
    · exact b_lens (wI 3 16) (oO 5 18)
    · exact b_lss_int_t (wI 3 16) (oO 4 17) (oO 6 19)
    · exact pT wA (oO 3 16) (oO 7 20)
    · exact mO 8 21
    · exact mW (wI 9 22) (oS 2 0)
    · exact mW (wI 9 22) (oS 0 5)
    · exact b_idx (wI 9 22) (oO 10 23) (oO 11 24)
    · exact b_eql_u8_t (wI 9 22) (oO 12 25) (opnd_const _)
    · exact pT wA (oO 9 22) (oO 13 26)
  intro B6 a6 W6 (S6 : Sta w 43 [] [(27, bT), (5, iV (e : Nat)), (4, iV 1), (0, sV l)] _ _ _)
  refine wp_cond_true (S6.bool 0 27 rfl) ?_
  refine wp_stmt_seq [.val (iV (e : Nat)), .val (iV ((e + 1 : Nat) : Int)), .val (iV ((e + 1 : Nat) : Int))] [] [.inl 2, .inr 3] follows S6 rfl (by kernel_rfl) ?_ ?_
  · refine ⟨⟨⟨trivial, ?_⟩, ?_⟩, ?_⟩
    · exact mS 1 5
    · exact b_add_int wA (oO 0 28) (opnd_const _)
    · exact mO 1 29
  intro B7 a7 W7 (S7 : Sta w 43 [] [(4, iV ((e + 1 : Nat) : Int)), (0, sV l)] _ _ _)
  refine wp_stmt [.val (sV l), .val (iV ((e + 1 : Nat) : Int)), .val (iV (d : Nat)), .val (iV (d : Nat))] [] [.inl 3, .inr 0, .inr 1] follows S7 rfl (by kernel_rfl) ?_ ?_
  · refine ⟨⟨⟨⟨trivial, ?_⟩, ?_⟩, ?_⟩, ?_⟩
    · exact mS 1 0
    · exact mS 0 4
    · exact ch3 wA (qO 0 30 rfl) (qO 1 31 rfl) (opnd_const _) (fresh_is _) (fun w u0 u1 u2 hx0 hx1 hx2 => by obtain rfl : u0 = _ := hx0.now; obtain rfl : u1 = _ := hx1.now; obtain rfl : u2 = _ := hx2.now; exact nend_f w l (e + 1) (d) hl (by omega) hd)
    · exact mO 2 32
  intro B8 a8 W8 (S8 : Sta w 43 [] [(5, iV (d : Nat)), (4, iV ((e + 1 : Nat) : Int)), (0, sV l)] _ _ _)
  refine thenN ?_
  refine wp_stmt_seq [.val (iV (d : Nat)), .val (iV (d : Nat)), .val (iV ((e + 1 : Nat) : Int)), kT, kT, .val (iV (d : Nat)), .val (sV l), .val (iV ((l).length : Nat)), kF, kF, .val (iV (d : Nat)), kF] [] [.inl 10, .inl 11] follows S8 rfl (by kernel_rfl) ?_ ?_
  · repeat' refine And.intro ?_ ?_
    · trivial
    · exact mS 0 5
    · exact mS 0 5
    · exact mS 1 4
    · exact b_gtr_int_t wA (oO 1 34) (oO 2 35)
    · exact mO 3 36
    · exact mW (wI 4 37) (oS 0 5)
    · exact mW (wI 4 37) (oS 2 0)
    · exact b_lens (wI 4 37) (oO 6 39)
    · exact b_eql_int_f (wI 4 37) (oO 5 38) (oO 7 40)
    · exact pT wA (oO 4 37) (oO 8 41)
    · exact mO 0 33
    · exact mO 9 42
  intro B9 a9 W9 (S9 : Sta w 43 [] [(2, iV (d : Nat)), (3, bF)] _ _ _)
  refine wp_ret ?_
  exact end_two S9 rfl (res_tmp S9 0 2 rfl) (res_tmp S9 1 3 rfl)

set_option maxHeartbeats 1000000 in
theorem end_frac_n (w : World) (l : List UInt8) (hl : l.length ≤ 131072) (hN : isN l = true) (e : Nat) (h : NE l 1 false e) (h1 : 1 < e) (h2 : e < l.length) (h3 : bt l e = 47) (hd : NE l (e + 1) false l.length) (h4 : e + 1 < l.length) :
    Calls Tryz.prog 23 #[str l] w (Gives (TWO (IS (.int .i64 (l.length : Nat))) (IS (.bool true))) w) := by
  have hf0 : 1 ≤ l.length := (isN_t hN).1
  refine calls_sta (sl := [(0, (sV l))]) Tryz.func23 rfl Tryz.ntmps23 (by simp) (args_cons rfl (is_has _) args_nil) ?_
  intro a0 S0
  refine wp_stmt_seq [.val (iV 0), kF] [] [.inr 0] follows S0 rfl (by kernel_rfl) ?_ ?_
  · refine ⟨⟨trivial, ?_⟩, ?_⟩
    · exact mC
    · exact mC
  intro B1 a1 W1 (S1 : Sta w 43 [] [(0, sV l)] _ _ _)
  refine wp_stmt_seq [.val (iV 0)] [] [.inl 0, .inr 0] follows S1 rfl (by kernel_rfl) ?_ ?_
  · refine ⟨trivial, ?_⟩
    · exact mC
  intro B2 a2 W2 (S2 : Sta w 43 [] [(4, iV 0), (0, sV l)] _ _ _)
  refine wp_seq ?_
  refine wp_stmt_seq [.val (sV l), kT] [] [.inl 1, .inr 0, .inr 1] follows S2 rfl (by kernel_rfl) ?_ ?_
  · refine ⟨⟨trivial, ?_⟩, ?_⟩
    · exact mS 1 0
    · exact ch2 wA (qO 0 6 rfl) ((opnd_const _).imp (fun _ _ h => h)) (fresh_is _) (fun w u0 u1 hx0 hx1 => by obtain rfl : u0 = _ := hx0.now; obtain rfl : u1 = _ := hx1.now; have := shasp_w w l; rw [hN] at this; exact this)
  intro B3 a3 W3 (S3 : Sta w 43 [] [(7, bT), (4, iV 0), (0, sV l)] _ _ _)
  refine wp_cond_true (S3.bool 0 7 rfl) ?_
  refine wp_stmt [.val (iV 1)] [] [.inl 0, .inr 2] follows S3 rfl (by kernel_rfl) ?_ ?_
  · refine ⟨trivial, ?_⟩
    · exact mC
  intro B4 a4 W4 (S4 : Sta w 43 [] [(4, iV 1), (0, sV l)] _ _ _)
  refine thenN ?_
  refine wp_stmt_seq [.val (sV l), .val (iV 1), .val (iV 1), kF, .val (iV (e : Nat)), .val (iV (e : Nat))] [] [.inl 5, .inr 0, .inr 1] follows S4 rfl (by kernel_rfl) ?_ ?_
  · refine ⟨⟨⟨⟨⟨⟨trivial, ?_⟩, ?_⟩, ?_⟩, ?_⟩, ?_⟩, ?_⟩
    · exact mS 1 0
    · exact mS 0 4
    · exact mS 0 4
    · exact b_eql_int_f wA (oO 2 10) (opnd_const _) (h := by decide)
    · exact ch3 wA (qO 0 8 rfl) (qO 1 9 rfl) (qO 3 11 rfl) (fresh_is _) (fun w u0 u1 u2 hx0 hx1 hx2 => by obtain rfl : u0 = _ := hx0.now; obtain rfl : u1 = _ := hx1.now; obtain rfl : u2 = _ := hx2.now; exact nend_f w l 1 (e) hl hf0 h)
    · exact mO 4 12
  intro B5 a5 W5 (S5 : Sta w 43 [] [(5, iV (e : Nat)), (4, iV 1), (0, sV l)] _ _ _)
  refine wp_seq ?_
  refine wp_stmt_seq [.val (iV (e : Nat)), .val (iV 1), kT, kT, .val (iV (e : Nat)), .val (sV l), .val (iV ((l).length : Nat)), kT, kT, kT, .val (sV l), .val (iV (e : Nat)), .val (Is (.int .u8 ((bt l e : Nat) : Int))), kT, kT] [] [.inl 14, .inr 0, .inr 1, .inr 2] follows S5 rfl (by kernel_rfl) ?_ ?_
  · repeat' refine And.intro ?_ ?_
    · trivial
    · exact mS 0 5
    · exact mS 1 4
    · exact b_gtr_int_t wA (oO 0 13) (oO 1 14)
    · exact mO 2 15
    · exact mW (wI 3 16) (oS 0 5)
    · exact mW (wI 3 16) (oS 2 0)
    · exact b_lens (wI 3 16) (oO 5 18)
    · exact b_lss_int_t (wI 3 16) (oO 4 17) (oO 6 19)
    · exact pT wA (oO 3 16) (oO 7 20)
    · exact mO 8 21
    · exact mW (wI 9 22) (oS 2 0)
    · exact mW (wI 9 22) (oS 0 5)
    · exact b_idx (wI 9 22) (oO 10 23) (oO 11 24)
    · exact b_eql_u8_t (wI 9 22) (oO 12 25) (opnd_const _)
    · exact pT wA (oO 9 22) (oO 13 26)
  intro B6 a6 W6 (S6 : Sta w 43 [] [(27, bT), (5, iV (e : Nat)), (4, iV 1), (0, sV l)] _ _ _)
  refine wp_cond_true (S6.bool 0 27 rfl) ?_
  refine wp_stmt_seq [.val (iV (e : Nat)), .val (iV ((e + 1 : Nat) : Int)), .val (iV ((e + 1 : Nat) : Int))] [] [.inl 2, .inr 3] follows S6 rfl (by kernel_rfl) ?_ ?_
  · refine ⟨⟨⟨trivial, ?_⟩, ?_⟩, ?_⟩
    · exact mS 1 5
    · exact b_add_int wA (oO 0 28) (opnd_const _)
    · exact mO 1 29
  intro B7 a7 W7 (S7 : Sta w 43 [] [(4, iV ((e + 1 : Nat) : Int)), (0, sV l)] _ _ _)
  refine wp_stmt [.val (sV l), .val (iV ((e + 1 : Nat) : Int)), .val (iV (l.length : Nat)), .val (iV (l.length : Nat))] [] [.inl 3, .inr 0, .inr 1] follows S7 rfl (by kernel_rfl) ?_ ?_
  · refine ⟨⟨⟨⟨trivial, ?_⟩, ?_⟩, ?_⟩, ?_⟩
    · exact mS 1 0
    · exact mS 0 4
    · exact ch3 wA (qO 0 30 rfl) (qO 1 31 rfl) (opnd_const _) (fresh_is _) (fun w u0 u1 u2 hx0 hx1 hx2 => by obtain rfl : u0 = _ := hx0.now; obtain rfl : u1 = _ := hx1.now; obtain rfl : u2 = _ := hx2.now; exact nend_f w l (e + 1) (l.length) hl (by omega) hd)
    · exact mO 2 32
  intro B8 a8 W8 (S8 : Sta w 43 [] [(5, iV (l.length : Nat)), (4, iV ((e + 1 : Nat) : Int)), (0, sV l)] _ _ _)
  refine thenN ?_
  refine wp_stmt_seq [.val (iV (l.length : Nat)), .val (iV (l.length : Nat)), .val (iV ((e + 1 : Nat) : Int)), kT, kT, .val (iV (l.length : Nat)), .val (sV l), .val (iV ((l).length : Nat)), kT, kT, .val (iV (l.length : Nat)), kT] [] [.inl 10, .inl 11] follows S8 rfl (by kernel_rfl) ?_ ?_
  · repeat' refine And.intro ?_ ?_
    · trivial
    · exact mS 0 5
    · exact mS 0 5
    · exact mS 1 4
    · exact b_gtr_int_t wA (oO 1 34) (oO 2 35)
    · exact mO 3 36
    · exact mW (wI 4 37) (oS 0 5)
    · exact mW (wI 4 37) (oS 2 0)
    · exact b_lens (wI 4 37) (oO 6 39)
    · exact b_eql_int_t (wI 4 37) (oO 5 38) (oO 7 40)
    · exact pT wA (oO 4 37) (oO 8 41)
    · exact mO 0 33
    · exact mO 9 42
  intro B9 a9 W9 (S9 : Sta w 43 [] [(2, iV (l.length : Nat)), (3, bT)] _ _ _)
  refine wp_ret ?_
  exact end_two S9 rfl (res_tmp S9 0 2 rfl) (res_tmp S9 1 3 rfl)

set_option maxHeartbeats 1000000 in
theorem end_no_p (w : World) (l : List UInt8) (hl : l.length ≤ 131072) (hN : isN l = false) (h : NE l 0 true 0) :
    Calls Tryz.prog 23 #[str l] w (Gives (TWO (IS (.int .i64 (0 : Nat))) (IS (.bool false))) w) := by
  have hf0 : 0 ≤ l.length := Nat.zero_le _
  refine calls_sta (sl := [(0, (sV l))]) Tryz.func23 rfl Tryz.ntmps23 (by simp) (args_cons rfl (is_has _) args_nil) ?_
  intro a0 S0
  refine wp_stmt_seq [.val (iV 0), kF] [] [.inr 0] follows S0 rfl (by kernel_rfl) ?_ ?_
  · refine ⟨⟨trivial, ?_⟩, ?_⟩
    · exact mC
    · exact mC
  intro B1 a1 W1 (S1 : Sta w 43 [] [(0, sV l)] _ _ _)
  refine wp_stmt_seq [.val (iV 0)] [] [.inl 0, .inr 0] follows S1 rfl (by kernel_rfl) ?_ ?_
  · refine ⟨trivial, ?_⟩
    · exact mC
  intro B2 a2 W2 (S2 : Sta w 43 [] [(4, iV 0), (0, sV l)] _ _ _)
  refine wp_seq ?_
  refine wp_stmt_seq [.val (sV l), kF] [] [.inl 1, .inr 0, .inr 1] follows S2 rfl (by kernel_rfl) ?_ ?_
  · refine ⟨⟨trivial, ?_⟩, ?_⟩
    · exact mS 1 0
    · exact ch2 wA (qO 0 6 rfl) ((opnd_const _).imp (fun _ _ h => h)) (fresh_is _) (fun w u0 u1 hx0 hx1 => by obtain rfl : u0 = _ := hx0.now; obtain rfl : u1 = _ := hx1.now; have := shasp_w w l; rw [hN] at this; exact this)
  intro B3 a3 W3 (S3 : Sta w 43 [] [(7, bF), (4, iV 0), (0, sV l)] _ _ _)
  refine wp_cond_false (S3.bool 0 7 rfl) ?_
  refine wp_skip ?_
  refine thenN ?_
  refine wp_stmt_seq [.val (sV l), .val (iV 0), .val (iV 0), kT, .val (iV (0 : Nat)), .val (iV (0 : Nat))] [] [.inl 5, .inr 1, .inr 2] follows S3 rfl (by kernel_rfl) ?_ ?_
  · refine ⟨⟨⟨⟨⟨⟨trivial, ?_⟩, ?_⟩, ?_⟩, ?_⟩, ?_⟩, ?_⟩
    · exact mS 2 0
    · exact mS 1 4
    · exact mS 1 4
    · exact b_eql_int_t wA (oO 2 10) (opnd_const _) (h := rfl)
    · exact ch3 wA (qO 0 8 rfl) (qO 1 9 rfl) (qO 3 11 rfl) (fresh_is _) (fun w u0 u1 u2 hx0 hx1 hx2 => by obtain rfl : u0 = _ := hx0.now; obtain rfl : u1 = _ := hx1.now; obtain rfl : u2 = _ := hx2.now; exact nend_t w l 0 (0) hl hf0 h)
    · exact mO 4 12
  intro B4 a4 W4 (S4 : Sta w 43 [] [(5, iV (0 : Nat)), (4, iV 0), (0, sV l)] _ _ _)
  refine wp_seq ?_
  refine wp_stmt_seq [.val (iV (0 : Nat)), .val (iV 0), kF, kF, .off, .off, .off, .off, kF, kF, .off, .off, .off, .off, kF] [] [.inl 14, .inr 0, .inr 1, .inr 2] follows S4 rfl (by kernel_rfl) ?_ ?_
  · repeat' refine And.intro ?_ ?_
    · trivial
    · exact mS 0 5
    · exact mS 1 4
    · exact b_gtr_int_f wA (oO 0 13) (oO 1 14)
    · exact mO 2 15
    · exact oF 3 16
    · exact oF 3 16
    · exact oF 3 16
    · exact oF 3 16
    · exact pF wA (oO 3 16) (opnd_const _)
    · exact mO 8 21
    · exact oF 9 22
    · exact oF 9 22
    · exact oF 9 22
    · exact oF 9 22
    · exact pF wA (oO 9 22) (opnd_const _)
  intro B5 a5 W5 (S5 : Sta w 43 [] [(27, bF), (5, iV (0 : Nat)), (4, iV 0), (0, sV l)] _ _ _)
  refine wp_cond_false (S5.bool 0 27 rfl) ?_
  refine wp_skip ?_
  refine thenN ?_
  refine wp_stmt_seq [.val (iV (0 : Nat)), .val (iV (0 : Nat)), .val (iV 0), kF, kF, .off, .off, .off, .off, kF, .val (iV (0 : Nat)), kF] [] [.inl 10, .inl 11] follows S5 rfl (by kernel_rfl) ?_ ?_
  · repeat' refine And.intro ?_ ?_
    · trivial
    · exact mS 1 5
    · exact mS 1 5
    · exact mS 2 4
    · exact b_gtr_int_f wA (oO 1 34) (oO 2 35)
    · exact mO 3 36
    · exact oF 4 37
    · exact oF 4 37
    · exact oF 4 37
    · exact oF 4 37
    · exact pF wA (oO 4 37) (opnd_const _)
    · exact mO 0 33
    · exact mO 9 42
  intro B6 a6 W6 (S6 : Sta w 43 [] [(2, iV (0 : Nat)), (3, bF)] _ _ _)
  refine wp_ret ?_
  exact end_two S6 rfl (res_tmp S6 0 2 rfl) (res_tmp S6 1 3 rfl)

set_option maxHeartbeats 1000000 in
theorem end_whole_p (w : World) (l : List UInt8) (hl : l.length ≤ 131072) (hN : isN l = false) (h : NE l 0 true l.length) (h1 : 0 < l.length) :
    Calls Tryz.prog 23 #[str l] w (Gives (TWO (IS (.int .i64 (l.length : Nat))) (IS (.bool true))) w) := by
  have hf0 : 0 ≤ l.length := Nat.zero_le _
  refine calls_sta (sl := [(0, (sV l))]) Tryz.func23 rfl Tryz.ntmps23 (by simp) (args_cons rfl (is_has _) args_nil) ?_
  intro a0 S0
  refine wp_stmt_seq [.val (iV 0), kF] [] [.inr 0] follows S0 rfl (by kernel_rfl) ?_ ?_
  · refine ⟨⟨trivial, ?_⟩, ?_⟩
    · exact mC
    · exact mC
  intro B1 a1 W1 (S1 : Sta w 43 [] [(0, sV l)] _ _ _)
  refine wp_stmt_seq [.val (iV 0)] [] [.inl 0, .inr 0] follows S1 rfl (by kernel_rfl) ?_ ?_
  · refine ⟨trivial, ?_⟩
    · exact mC
  intro B2 a2 W2 (S2 : Sta w 43 [] [(4, iV 0), (0, sV l)] _ _ _)
  refine wp_seq ?_
  refine wp_stmt_seq [.val (sV l), kF] [] [.inl 1, .inr 0, .inr 1] follows S2 rfl (by kernel_rfl) ?_ ?_
  · refine ⟨⟨trivial, ?_⟩, ?_⟩
    · exact mS 1 0
    · exact ch2 wA (qO 0 6 rfl) ((opnd_const _).imp (fun _ _ h => h)) (fresh_is _) (fun w u0 u1 hx0 hx1 => by obtain rfl : u0 = _ := hx0.now; obtain rfl : u1 = _ := hx1.now; have := shasp_w w l; rw [hN] at this; exact this)
  intro B3 a3 W3 (S3 : Sta w 43 [] [(7, bF), (4, iV 0), (0, sV l)] _ _ _)
  refine wp_cond_false (S3.bool 0 7 rfl) ?_
  refine wp_skip ?_
  refine thenN ?_
  refine wp_stmt_seq [.val (sV l), .val (iV 0), .val (iV 0), kT, .val (iV (l.length : Nat)), .val (iV (l.length : Nat))] [] [.inl 5, .inr 1, .inr 2] follows S3 rfl (by kernel_rfl) ?_ ?_
  · refine ⟨⟨⟨⟨⟨⟨trivial, ?_⟩, ?_⟩, ?_⟩, ?_⟩, ?_⟩, ?_⟩
    · exact mS 2 0
    · exact mS 1 4
    · exact mS 1 4
    · exact b_eql_int_t wA (oO 2 10) (opnd_const _) (h := rfl)
    · exact ch3 wA (qO 0 8 rfl) (qO 1 9 rfl) (qO 3 11 rfl) (fresh_is _) (fun w u0 u1 u2 hx0 hx1 hx2 => by obtain rfl : u0 = _ := hx0.now; obtain rfl : u1 = _ := hx1.now; obtain rfl : u2 = _ := hx2.now; exact nend_t w l 0 (l.length) hl hf0 h)
    · exact mO 4 12
  intro B4 a4 W4 (S4 : Sta w 43 [] [(5, iV (l.length : Nat)), (4, iV 0), (0, sV l)] _ _ _)
  refine wp_seq ?_
  refine wp_stmt_seq [.val (iV (l.length : Nat)), .val (iV 0), kT, kT, .val (iV (l.length : Nat)), .val (sV l), .val (iV ((l).length : Nat)), kF, kF, kF, .off, .off, .off, .off, kF] [] [.inl 14, .inr 0, .inr 1, .inr 2] follows S4 rfl (by kernel_rfl) ?_ ?_
  · repeat' refine And.intro ?_ ?_
    · trivial
    · exact mS 0 5
    · exact mS 1 4
    · exact b_gtr_int_t wA (oO 0 13) (oO 1 14)
    · exact mO 2 15
    · exact mW (wI 3 16) (oS 0 5)
    · exact mW (wI 3 16) (oS 2 0)
    · exact b_lens (wI 3 16) (oO 5 18)
    · exact b_lss_int_f (wI 3 16) (oO 4 17) (oO 6 19)
    · exact pT wA (oO 3 16) (oO 7 20)
    · exact mO 8 21
    · exact oF 9 22
    · exact oF 9 22
    · exact oF 9 22
    · exact oF 9 22
    · exact pF wA (oO 9 22) (opnd_const _)
  intro B5 a5 W5 (S5 : Sta w 43 [] [(27, bF), (5, iV (l.length : Nat)), (4, iV 0), (0, sV l)] _ _ _)
  refine wp_cond_false (S5.bool 0 27 rfl) ?_
  refine wp_skip ?_
  refine thenN ?_
  refine wp_stmt_seq [.val (iV (l.length : Nat)), .val (iV (l.length : Nat)), .val (iV 0), kT, kT, .val (iV (l.length : Nat)), .val (sV l), .val (iV ((l).length : Nat)), kT, kT, .val (iV (l.length : Nat)), kT] [] [.inl 10, .inl 11] follows S5 rfl (by kernel_rfl) ?_ ?_
  · repeat' refine And.intro ?_ ?_
    · trivial
    · exact mS 1 5
    · exact mS 1 5
    · exact mS 2 4
    · exact b_gtr_int_t wA (oO 1 34) (oO 2 35)
    · exact mO 3 36
    · exact mW (wI 4 37) (oS 1 5)
    · exact mW (wI 4 37) (oS 3 0)
    · exact b_lens (wI 4 37) (oO 6 39)
    · exact b_eql_int_t (wI 4 37) (oO 5 38) (oO 7 40)
    · exact pT wA (oO 4 37) (oO 8 41)
    · exact mO 0 33
    · exact mO 9 42
  intro B6 a6 W6 (S6 : Sta w 43 [] [(2, iV (l.length : Nat)), (3, bT)] _ _ _)
  refine wp_ret ?_
  exact end_two S6 rfl (res_tmp S6 0 2 rfl) (res_tmp S6 1 3 rfl)

set_option maxHeartbeats 1000000 in
theorem end_tail_p (w : World) (l : List UInt8) (hl : l.length ≤ 131072) (hN : isN l = false) (e : Nat) (h : NE l 0 true e) (h1 : 0 < e) (h2 : e < l.length) (h3 : bt l e ≠ 47) :
    Calls Tryz.prog 23 #[str l] w (Gives (TWO (IS (.int .i64 (e : Nat))) (IS (.bool false))) w) := by
  have hf0 : 0 ≤ l.length := Nat.zero_le _
  refine calls_sta (sl := [(0, (sV l))]) Tryz.func23 rfl Tryz.ntmps23 (by simp) (args_cons rfl (is_has _) args_nil) ?_
  intro a0 S0
  refine wp_stmt_seq [.val (iV 0), kF] [] [.inr 0] follows S0 rfl (by kernel_rfl) ?_ ?_
  · refine ⟨⟨trivial, ?_⟩, ?_⟩
    · exact mC
    · exact mC
  intro B1 a1 W1 (S1 : Sta w 43 [] [(0, sV l)] _ _ _)
  refine wp_stmt_seq [.val (iV 0)] [] [.inl 0, .inr 0] follows S1 rfl (by kernel_rfl) ?_ ?_
  · refine ⟨trivial, ?_⟩
    · exact mC
  intro B2 a2 W2 (S2 : Sta w 43 [] [(4, iV 0), (0, sV l)] _ _ _)
  refine wp_seq ?_
  refine wp_stmt_seq [.val (sV l), kF] [] [.inl 1, .inr 0, .inr 1] follows S2 rfl (by kernel_rfl) ?_ ?_
  · refine ⟨⟨trivial, ?_⟩, ?_⟩
    · exact mS 1 0
    · exact ch2 wA (qO 0 6 rfl) ((opnd_const _).imp (fun _ _ h => h)) (fresh_is _) (fun w u0 u1 hx0 hx1 => by obtain rfl : u0 = _ := hx0.now; obtain rfl : u1 = _ := hx1.now; have := shasp_w w l; rw [hN] at this; exact this)
  intro B3 a3 W3 (S3 : Sta w 43 [] [(7, bF), (4, iV 0), (0, sV l)] _ _ _)
  refine wp_cond_false (S3.bool 0 7 rfl) ?_
  refine wp_skip ?_
  refine thenN ?_
  refine wp_stmt_seq [.val (sV l), .val (iV 0), .val (iV 0), kT, .val (iV (e : Nat)), .val (iV (e : Nat))] [] [.inl 5, .inr 1, .inr 2] follows S3 rfl (by kernel_rfl) ?_ ?_
  · refine ⟨⟨⟨⟨⟨⟨trivial, ?_⟩, ?_⟩, ?_⟩, ?_⟩, ?_⟩, ?_⟩
    · exact mS 2 0
    · exact mS 1 4
    · exact mS 1 4
    · exact b_eql_int_t wA (oO 2 10) (opnd_const _) (h := rfl)
    · exact ch3 wA (qO 0 8 rfl) (qO 1 9 rfl) (qO 3 11 rfl) (fresh_is _) (fun w u0 u1 u2 hx0 hx1 hx2 => by obtain rfl : u0 = _ := hx0.now; obtain rfl : u1 = _ := hx1.now; obtain rfl : u2 = _ := hx2.now; exact nend_t w l 0 (e) hl hf0 h)
    · exact mO 4 12
  intro B4 a4 W4 (S4 : Sta w 43 [] [(5, iV (e : Nat)), (4, iV 0), (0, sV l)] _ _ _)
  refine wp_seq ?_
  refine wp_stmt_seq [.val (iV (e : Nat)), .val (iV 0), kT, kT, .val (iV (e : Nat)), .val (sV l), .val (iV ((l).length : Nat)), kT, kT, kT, .val (sV l), .val (iV (e : Nat)), .val (Is (.int .u8 ((bt l e : Nat) : Int))), kF, kF] [] [.inl 14, .inr 0, .inr 1, .inr 2] follows S4 rfl (by kernel_rfl) ?_ ?_
  · repeat' refine And.intro ?_ ?_
    · trivial
    · exact mS 0 5
    · exact mS 1 4
    · exact b_gtr_int_t wA (oO 0 13) (oO 1 14)
    · exact mO 2 15
    · exact mW (wI 3 16) (oS 0 5)
    · exact mW (wI 3 16) (oS 2 0)
    · exact b_lens (wI 3 16) (oO 5 18)
    · exact b_lss_int_t (wI 3 16) (oO 4 17) (oO 6 19)
    · exact pT wA (oO 3 16) (oO 7 20)
    · exact mO 8 21
    · exact mW (wI 9 22) (oS 2 0)
    · exact mW (wI 9 22) (oS 0 5)
    · exact b_idx (wI 9 22) (oO 10 23) (oO 11 24)
    · exact b_eql_u8_f (wI 9 22) (oO 12 25) (opnd_const _)
    · exact pT wA (oO 9 22) (oO 13 26)
  intro B5 a5 W5 (S5 : Sta w 43 [] [(27, bF), (5, iV (e : Nat)), (4, iV 0), (0, sV l)] _ _ _)
  refine wp_cond_false (S5.bool 0 27 rfl) ?_
  refine wp_skip ?_
  refine thenN ?_
  refine wp_stmt_seq [.val (iV (e : Nat)), .val (iV (e : Nat)), .val (iV 0), kT, kT, .val (iV (e : Nat)), .val (sV l), .val (iV ((l).length : Nat)), kF, kF, .val (iV (e : Nat)), kF] [] [.inl 10, .inl 11] follows S5 rfl (by kernel_rfl) ?_ ?_
  · repeat' refine And.intro ?_ ?_
    · trivial
    · exact mS 1 5
    · exact mS 1 5
    · exact mS 2 4
    · exact b_gtr_int_t wA (oO 1 34) (oO 2 35)
    · exact mO 3 36
    · exact mW (wI 4 37) (oS 1 5)
    · exact mW (wI 4 37) (oS 3 0)
    · exact b_lens (wI 4 37) (oO 6 39)
    · exact b_eql_int_f (wI 4 37) (oO 5 38) (oO 7 40)
    · exact pT wA (oO 4 37) (oO 8 41)
    · exact mO 0 33
    · exact mO 9 42
  intro B6 a6 W6 (S6 : Sta w 43 [] [(2, iV (e : Nat)), (3, bF)] _ _ _)
  refine wp_ret ?_
  exact end_two S6 rfl (res_tmp S6 0 2 rfl) (res_tmp S6 1 3 rfl)

set_option maxHeartbeats 1000000 in
theorem end_noden_p (w : World) (l : List UInt8) (hl : l.length ≤ 131072) (hN : isN l = false) (e : Nat) (h : NE l 0 true e) (h1 : 0 < e) (h2 : e < l.length) (h3 : bt l e = 47) (hd : NE l (e + 1) false (e + 1)) :
    Calls Tryz.prog 23 #[str l] w (Gives (TWO (IS (.int .i64 (e + 1 : Nat))) (IS (.bool false))) w) := by
  have hf0 : 0 ≤ l.length := Nat.zero_le _
  refine calls_sta (sl := [(0, (sV l))]) Tryz.func23 rfl Tryz.ntmps23 (by simp) (args_cons rfl (is_has _) args_nil) ?_
  intro a0 S0
  refine wp_stmt_seq [.val (iV 0), kF] [] [.inr 0] follows S0 rfl (by kernel_rfl) ?_ ?_
  · refine ⟨⟨trivial, ?_⟩, ?_⟩
    · exact mC
    · exact mC
  intro B1 a1 W1 (S1 : Sta w 43 [] [(0, sV l)] _ _ _)
  refine wp_stmt_seq [.val (iV 0)] [] [.inl 0, .inr 0] follows S1 rfl (by kernel_rfl) ?_ ?_
  · refine ⟨trivial, ?_⟩
    · exact mC
  intro B2 a2 W2 (S2 : Sta w 43 [] [(4, iV 0), (0, sV l)] _ _ _)
  refine wp_seq ?_
  refine wp_stmt_seq [.val (sV l), kF] [] [.inl 1, .inr 0, .inr 1] follows S2 rfl (by kernel_rfl) ?_ ?_
  · refine ⟨⟨trivial, ?_⟩, ?_⟩
    · exact mS 1 0
    · exact ch2 wA (qO 0 6 rfl) ((opnd_const _).imp (fun _ _ h => h)) (fresh_is _) (fun w u0 u1 hx0 hx1 => by obtain rfl : u0 = _ := hx0.now; obtain rfl : u1 = _ := hx1.now; have := shasp_w w l; rw [hN] at this; exact this)
  intro B3 a3 W3 (S3 : Sta w 43 [] [(7, bF), (4, iV 0), (0, sV l)] _ _ _)
  refine wp_cond_false (S3.bool 0 7 rfl) ?_
  refine wp_skip ?_
  refine thenN ?_
  refine wp_stmt_seq [.val (sV l), .val (iV 0), .val (iV 0), kT, .val (iV (e : Nat)), .val (iV (e : Nat))] [] [.inl 5, .inr 1, .inr 2] follows S3 rfl (by kernel_rfl) ?_ ?_
  · refine ⟨⟨⟨⟨⟨⟨trivial, ?_⟩, ?_⟩, ?_⟩, ?_⟩, ?_⟩, ?_⟩
    · exact mS 2 0
    · exact mS 1 4
    · exact mS 1 4
    · exact b_eql_int_t wA (oO 2 10) (opnd_const _) (h := rfl)
    · exact ch3 wA (qO 0 8 rfl) (qO 1 9 rfl) (qO 3 11 rfl) (fresh_is _) (fun w u0 u1 u2 hx0 hx1 hx2 => by obtain rfl : u0 = _ := hx0.now; obtain rfl : u1 = _ := hx1.now; obtain rfl : u2 = _ := hx2.now; exact nend_t w l 0 (e) hl hf0 h)
    · exact mO 4 12
  intro B4 a4 W4 (S4 : Sta w 43 [] [(5, iV (e : Nat)), (4, iV 0), (0, sV l)] _ _ _)
  refine wp_seq ?_
  refine wp_stmt_seq [.val (iV (e : Nat)), .val (iV 0), kT, kT, .val (iV (e : Nat)), .val (sV l), .val (iV ((l).length : Nat)), kT, kT, kT, .val (sV l), .val (iV (e : Nat)), .val (Is (.int .u8 ((bt l e : Nat) : Int))), kT, kT] [] [.inl 14, .inr 0, .inr 1, .inr 2] follows S4 rfl (by kernel_rfl) ?_ ?_
  · repeat' refine And.intro ?_ ?_
    · trivial
    · exact mS 0 5
    · exact mS 1 4
    · exact b_gtr_int_t wA (oO 0 13) (oO 1 14)
    · exact mO 2 15
    · exact mW (wI 3 16) (oS 0 5)
    · exact mW (wI 3 16) (oS 2 0)
    · exact b_lens (wI 3 16) (oO 5 18)
    · exact b_lss_int_t (wI 3 16) (oO 4 17) (oO 6 19)
    · exact pT wA (oO 3 16) (oO 7 20)
    · exact mO 8 21
    · exact mW (wI 9 22) (oS 2 0)
    · exact mW (wI 9 22) (oS 0 5)
    · exact b_idx (wI 9 22) (oO 10 23) (oO 11 24)
    · exact b_eql_u8_t (wI 9 22) (oO 12 25) (opnd_const _)
    · exact pT wA (oO 9 22) (oO 13 26)
  intro B5 a5 W5 (S5 : Sta w 43 [] [(27, bT), (5, iV (e : Nat)), (4, iV 0), (0, sV l)] _ _ _)
  refine wp_cond_true (S5.bool 0 27 rfl) ?_
  refine wp_stmt_seq [.val (iV (e : Nat)), .val (iV ((e + 1 : Nat) : Int)), .val (iV ((e + 1 : Nat) : Int))] [] [.inl 2, .inr 3] follows S5 rfl (by kernel_rfl) ?_ ?_
  · refine ⟨⟨⟨trivial, ?_⟩, ?_⟩, ?_⟩
    · exact mS 1 5
    · exact b_add_int wA (oO 0 28) (opnd_const _)
    · exact mO 1 29
  intro B6 a6 W6 (S6 : Sta w 43 [] [(4, iV ((e + 1 : Nat) : Int)), (0, sV l)] _ _ _)
  refine wp_stmt [.val (sV l), .val (iV ((e + 1 : Nat) : Int)), .val (iV (e + 1 : Nat)), .val (iV (e + 1 : Nat))] [] [.inl 3, .inr 0, .inr 1] follows S6 rfl (by kernel_rfl) ?_ ?_
  · refine ⟨⟨⟨⟨trivial, ?_⟩, ?_⟩, ?_⟩, ?_⟩
    · exact mS 1 0
    · exact mS 0 4
    · exact ch3 wA (qO 0 30 rfl) (qO 1 31 rfl) (opnd_const _) (fresh_is _) (fun w u0 u1 u2 hx0 hx1 hx2 => by obtain rfl : u0 = _ := hx0.now; obtain rfl : u1 = _ := hx1.now; obtain rfl : u2 = _ := hx2.now; exact nend_f w l (e + 1) (e + 1) hl (by omega) hd)
    · exact mO 2 32
  intro B7 a7 W7 (S7 : Sta w 43 [] [(5, iV (e + 1 : Nat)), (4, iV ((e + 1 : Nat) : Int)), (0, sV l)] _ _ _)
  refine thenN ?_
  refine wp_stmt_seq [.val (iV (e + 1 : Nat)), .val (iV (e + 1 : Nat)), .val (iV ((e + 1 : Nat) : Int)), kF, kF, .off, .off, .off, .off, kF, .val (iV (e + 1 : Nat)), kF] [] [.inl 10, .inl 11] follows S7 rfl (by kernel_rfl) ?_ ?_
  · repeat' refine And.intro ?_ ?_
    · trivial
    · exact mS 0 5
    · exact mS 0 5
    · exact mS 1 4
    · exact b_gtr_int_f wA (oO 1 34) (oO 2 35)
    · exact mO 3 36
    · exact oF 4 37
    · exact oF 4 37
    · exact oF 4 37
    · exact oF 4 37
    · exact pF wA (oO 4 37) (opnd_const _)
    · exact mO 0 33
    · exact mO 9 42
  intro B8 a8 W8 (S8 : Sta w 43 [] [(2, iV (e + 1 : Nat)), (3, bF)] _ _ _)
  refine wp_ret ?_
  exact end_two S8 rfl (res_tmp S8 0 2 rfl) (res_tmp S8 1 3 rfl)

set_option maxHeartbeats 1000000 in
theorem end_dtail_p (w : World) (l : List UInt8) (hl : l.length ≤ 131072) (hN : isN l = false) (e : Nat) (h : NE l 0 true e) (h1 : 0 < e) (h2 : e < l.length) (h3 : bt l e = 47) (d : Nat) (hd : NE l (e + 1) false d) (h4 : e + 1 < d) (h5 : d < l.length) :
    Calls Tryz.prog 23 #[str l] w (Gives (TWO (IS (.int .i64 (d : Nat))) (IS (.bool false))) w) := by
  have hf0 : 0 ≤ l.length := Nat.zero_le _
  refine calls_sta (sl := [(0, (sV l))]) Tryz.func23 rfl Tryz.ntmps23 (by simp) (args_cons rfl (is_has _) args_nil) ?_
  intro a0 S0
  refine wp_stmt_seq [.val (iV 0), kF] [] [.inr 0] follows S0 rfl (by kernel_rfl) ?_ ?_
  · refine ⟨⟨trivial, ?_⟩, ?_⟩
    · exact mC
    · exact mC
  intro B1 a1 W1 (S1 : Sta w 43 [] [(0, sV l)] _ _ _)
  refine wp_stmt_seq [.val (iV 0)] [] [.inl 0, .inr 0] follows S1 rfl (by kernel_rfl) ?_ ?_
  · refine ⟨trivial, ?_⟩
    · exact mC
  intro B2 a2 W2 (S2 : Sta w 43 [] [(4, iV 0), (0, sV l)] _ _ _)
  refine wp_seq ?_
  refine wp_stmt_seq [.val (sV l), kF] [] [.inl 1, .inr 0, .inr 1] follows S2 rfl (by kernel_rfl) ?_ ?_
  · refine ⟨⟨trivial, ?_⟩, ?_⟩
    · exact mS 1 0
    · exact ch2 wA (qO 0 6 rfl) ((opnd_const _).imp (fun _ _ h => h)) (fresh_is _) (fun w u0 u1 hx0 hx1 => by obtain rfl : u0 = _ := hx0.now; obtain rfl : u1 = _ := hx1.now; have := shasp_w w l; rw [hN] at this; exact this)
  intro B3 a3 W3 (S3 : Sta w 43 [] [(7, bF), (4, iV 0), (0, sV l)] _ _ _)
  refine wp_cond_false (S3.bool 0 7 rfl) ?_
  refine wp_skip ?_
  refine thenN ?_
  refine wp_stmt_seq [.val (sV l), .val (iV 0), .val (iV 0), kT, .val (iV (e : Nat)), .val (iV (e : Nat))] [] [.inl 5, .inr 1, .inr 2] follows S3 rfl (by kernel_rfl) ?_ ?_
  · refine ⟨⟨⟨⟨⟨⟨trivial, ?_⟩, ?_⟩, ?_⟩, ?_⟩, ?_⟩, ?_⟩
    · exact mS 2 0
    · exact mS 1 4
    · exact mS 1 4
    · exact b_eql_int_t wA (oO 2 10) (opnd_const _) (h := rfl)
    · exact ch3 wA (qO 0 8 rfl) (qO 1 9 rfl) (qO 3 11 rfl) (fresh_is _) (fun w u0 u1 u2 hx0 hx1 hx2 => by obtain rfl : u0 = _ := hx0.now; obtain rfl : u1 = _ := hx1.now; obtain rfl : u2 = _ := hx2.now; exact nend_t w l 0 (e) hl hf0 h)
    · exact mO 4 12
  intro B4 a4 W4 (S4 : Sta w 43 [] [(5, iV (e : Nat)), (4, iV 0), (0, sV l)] _ _ _)
  refine wp_seq ?_
  refine wp_stmt_seq [.val (iV (e : Nat)), .val (iV 0), kT, kT, .val (iV (e : Nat)), .val (sV l), .val (iV ((l).length : Nat)), kT, kT, kT, .val (sV l), .val (iV (e : Nat)), .val (Is (.int .u8 ((bt l e : Nat) : Int))), kT, kT] [] [.inl 14, .inr 0, .inr 1, .inr 2] follows S4 rfl (by kernel_rfl) ?_ ?_
  · repeat' refine And.intro ?_ ?_
    · trivial
    · exact mS 0 5
    · exact mS 1 4
    · exact b_gtr_int_t wA (oO 0 13) (oO 1 14)
    · exact mO 2 15
    · exact mW (wI 3 16) (oS 0 5)
    · exact mW (wI 3 16) (oS 2 0)
    · exact b_lens (wI 3 16) (oO 5 18)
    · exact b_lss_int_t (wI 3 16) (oO 4 17) (oO 6 19)
    · exact pT wA (oO 3 16) (oO 7 20)
    · exact mO 8 21
    · exact mW (wI 9 22) (oS 2 0)
    · exact mW (wI 9 22) (oS 0 5)
    · exact b_idx (wI 9 22) (oO 10 23) (oO 11 24)
    · exact b_eql_u8_t (wI 9 22) (oO 12 25) (opnd_const _)
    · exact pT wA (oO 9 22) (oO 13 26)
  intro B5 a5 W5 (S5 : Sta w 43 [] [(27, bT), (5, iV (e : Nat)), (4, iV 0), (0, sV l)] _ _ _)
  refine wp_cond_true (S5.bool 0 27 rfl) ?_
  refine wp_stmt_seq [.val (iV (e : Nat)), .val (iV ((e + 1 : Nat) : Int)), .val (iV ((e + 1 : Nat) : Int))] [] [.inl 2, .inr 3] follows S5 rfl (by kernel_rfl) ?_ ?_
  · refine ⟨⟨⟨trivial, ?_⟩, ?_⟩, ?_⟩
    · exact mS 1 5
    · exact b_add_int wA (oO 0 28) (opnd_const _)
    · exact mO 1 29
  intro B6 a6 W6 (S6 : Sta w 43 [] [(4, iV ((e + 1 : Nat) : Int)), (0, sV l)] _ _ _)
  refine wp_stmt [.val (sV l), .val (iV ((e + 1 : Nat) : Int)), .val (iV (d : Nat)), .val (iV (d : Nat))] [] [.inl 3, .inr 0, .inr 1] follows S6 rfl (by kernel_rfl) ?_ ?_
  · refine ⟨⟨⟨⟨trivial, ?_⟩, ?_⟩, ?_⟩, ?_⟩
    · exact mS 1 0
    · exact mS 0 4
    · exact ch3 wA (qO 0 30 rfl) (qO 1 31 rfl) (opnd_const _) (fresh_is _) (fun w u0 u1 u2 hx0 hx1 hx2 => by obtain rfl : u0 = _ := hx0.now; obtain rfl : u1 = _ := hx1.now; obtain rfl : u2 = _ := hx2.now; exact nend_f w l (e + 1) (d) hl (by omega) hd)
    · exact mO 2 32
  intro B7 a7 W7 (S7 : Sta w 43 [] [(5, iV (d : Nat)), (4, iV ((e + 1 : Nat) : Int)), (0, sV l)] _ _ _)
  refine thenN ?_
  refine wp_stmt_seq [.val (iV (d : Nat)), .val (iV (d : Nat)), .val (iV ((e + 1 : Nat) : Int)), kT, kT, .val (iV (d : Nat)), .val (sV l), .val (iV ((l).length : Nat)), kF, kF, .val (iV (d : Nat)), kF] [] [.inl 10, .inl 11] follows S7 rfl (by kernel_rfl) ?_ ?_
  · repeat' refine And.intro ?_ ?_
    · trivial
    · exact mS 0 5
    · exact mS 0 5
    · exact mS 1 4
    · exact b_gtr_int_t wA (oO 1 34) (oO 2 35)
    · exact mO 3 36
    · exact mW (wI 4 37) (oS 0 5)
    · exact mW (wI 4 37) (oS 2 0)
    · exact b_lens (wI 4 37) (oO 6 39)
    · exact b_eql_int_f (wI 4 37) (oO 5 38) (oO 7 40)
    · exact pT wA (oO 4 37) (oO 8 41)
    · exact mO 0 33
    · exact mO 9 42
  intro B8 a8 W8 (S8 : Sta w 43 [] [(2, iV (d : Nat)), (3, bF)] _ _ _)
  refine wp_ret ?_
  exact end_two S8 rfl (res_tmp S8 0 2 rfl) (res_tmp S8 1 3 rfl)

set_option maxHeartbeats 1000000 in
theorem end_frac_p (w : World) (l : List UInt8) (hl : l.length ≤ 131072) (hN : isN l = false) (e : Nat) (h : NE l 0 true e) (h1 : 0 < e) (h2 : e < l.length) (h3 : bt l e = 47) (hd : NE l (e + 1) false l.length) (h4 : e + 1 < l.length) :
    Calls Tryz.prog 23 #[str l] w (Gives (TWO (IS (.int .i64 (l.length : Nat))) (IS (.bool true))) w) := by
  have hf0 : 0 ≤ l.length := Nat.zero_le _
  refine calls_sta (sl := [(0, (sV l))]) Tryz.func23 rfl Tryz.ntmps23 (by simp) (args_cons rfl (is_has _) args_nil) ?_
  intro a0 S0
  refine wp_stmt_seq [.val (iV 0), kF] [] [.inr 0] follows S0 rfl (by kernel_rfl) ?_ ?_
  · refine ⟨⟨trivial, ?_⟩, ?_⟩
    · exact mC
    · exact mC
  intro B1 a1 W1 (S1 : Sta w 43 [] [(0, sV l)] _ _ _)
  refine wp_stmt_seq [.val (iV 0)] [] [.inl 0, .inr 0] follows S1 rfl (by kernel_rfl) ?_ ?_
  · refine ⟨trivial, ?_⟩
    · exact mC
  intro B2 a2 W2 (S2 : Sta w 43 [] [(4, iV 0), (0, sV l)] _ _ _)
  refine wp_seq ?_
  refine wp_stmt_seq [.val (sV l), kF] [] [.inl 1, .inr 0, .inr 1] follows S2 rfl (by kernel_rfl) ?_ ?_
  · refine ⟨⟨trivial, ?_⟩, ?_⟩
    · exact mS 1 0
    · exact ch2 wA (qO 0 6 rfl) ((opnd_const _).imp (fun _ _ h => h)) (fresh_is _) (fun w u0 u1 hx0 hx1 => by obtain rfl : u0 = _ := hx0.now; obtain rfl : u1 = _ := hx1.now; have := shasp_w w l; rw [hN] at this; exact this)
  intro B3 a3 W3 (S3 : Sta w 43 [] [(7, bF), (4, iV 0), (0, sV l)] _ _ _)
  refine wp_cond_false (S3.bool 0 7 rfl) ?_
  refine wp_skip ?_
  refine thenN ?_
  refine wp_stmt_seq [.val (sV l), .val (iV 0), .val (iV 0), kT, .val (iV (e : Nat)), .val (iV (e : Nat))] [] [.inl 5, .inr 1, .inr 2] follows S3 rfl (by kernel_rfl) ?_ ?_
  · refine ⟨⟨⟨⟨⟨⟨trivial, ?_⟩, ?_⟩, ?_⟩, ?_⟩, ?_⟩, ?_⟩
    · exact mS 2 0
    · exact mS 1 4
    · exact mS 1 4
    · exact b_eql_int_t wA (oO 2 10) (opnd_const _) (h := rfl)
    · exact ch3 wA (qO 0 8 rfl) (qO 1 9 rfl) (qO 3 11 rfl) (fresh_is _) (fun w u0 u1 u2 hx0 hx1 hx2 => by obtain rfl : u0 = _ := hx0.now; obtain rfl : u1 = _ := hx1.now; obtain rfl : u2 = _ := hx2.now; exact nend_t w l 0 (e) hl hf0 h)
    · exact mO 4 12
  intro B4 a4 W4 (S4 : Sta w 43 [] [(5, iV (e : Nat)), (4, iV 0), (0, sV l)] _ _ _)
  refine wp_seq ?_
  refine wp_stmt_seq [.val (iV (e : Nat)), .val (iV 0), kT, kT, .val (iV (e : Nat)), .val (sV l), .val (iV ((l).length : Nat)), kT, kT, kT, .val (sV l), .val (iV (e : Nat)), .val (Is (.int .u8 ((bt l e : Nat) : Int))), kT, kT] [] [.inl 14, .inr 0, .inr 1, .inr 2] follows S4 rfl (by kernel_rfl) ?_ ?_
  · repeat' refine And.intro ?_ ?_
    · trivial
    · exact mS 0 5
    · exact mS 1 4
    · exact b_gtr_int_t wA (oO 0 13) (oO 1 14)
    · exact mO 2 15
    · exact mW (wI 3 16) (oS 0 5)
    · exact mW (wI 3 16) (oS 2 0)
    · exact b_lens (wI 3 16) (oO 5 18)
    · exact b_lss_int_t (wI 3 16) (oO 4 17) (oO 6 19)
    · exact pT wA (oO 3 16) (oO 7 20)
    · exact mO 8 21
    · exact mW (wI 9 22) (oS 2 0)
    · exact mW (wI 9 22) (oS 0 5)
    · exact b_idx (wI 9 22) (oO 10 23) (oO 11 24)
    · exact b_eql_u8_t (wI 9 22) (oO 12 25) (opnd_const _)
    · exact pT wA (oO 9 22) (oO 13 26)
  intro B5 a5 W5 (S5 : Sta w 43 [] [(27, bT), (5, iV (e : Nat)), (4, iV 0), (0, sV l)] _ _ _)
  refine wp_cond_true (S5.bool 0 27 rfl) ?_
  refine wp_stmt_seq [.val (iV (e : Nat)), .val (iV ((e + 1 : Nat) : Int)), .val (iV ((e + 1 : Nat) : Int))] [] [.inl 2, .inr 3] follows S5 rfl (by kernel_rfl) ?_ ?_
  · refine ⟨⟨⟨trivial, ?_⟩, ?_⟩, ?_⟩
    · exact mS 1 5
    · exact b_add_int wA (oO 0 28) (opnd_const _)
    · exact mO 1 29
  intro B6 a6 W6 (S6 : Sta w 43 [] [(4, iV ((e + 1 : Nat) : Int)), (0, sV l)] _ _ _)
  refine wp_stmt [.val (sV l), .val (iV ((e + 1 : Nat) : Int)), .val (iV (l.length : Nat)), .val (iV (l.length : Nat))] [] [.inl 3, .inr 0, .inr 1] follows S6 rfl (by kernel_rfl) ?_ ?_
  · refine ⟨⟨⟨⟨trivial, ?_⟩, ?_⟩, ?_⟩, ?_⟩
    · exact mS 1 0
    · exact mS 0 4
    · exact ch3 wA (qO 0 30 rfl) (qO 1 31 rfl) (opnd_const _) (fresh_is _) (fun w u0 u1 u2 hx0 hx1 hx2 => by obtain rfl : u0 = _ := hx0.now; obtain rfl : u1 = _ := hx1.now; obtain rfl : u2 = _ := hx2.now; exact nend_f w l (e + 1) (l.length) hl (by omega) hd)
    · exact mO 2 32
  intro B7 a7 W7 (S7 : Sta w 43 [] [(5, iV (l.length : Nat)), (4, iV ((e + 1 : Nat) : Int)), (0, sV l)] _ _ _)
  refine thenN ?_
  refine wp_stmt_seq [.val (iV (l.length : Nat)), .val (iV (l.length : Nat)), .val (iV ((e + 1 : Nat) : Int)), kT, kT, .val (iV (l.length : Nat)), .val (sV l), .val (iV ((l).length : Nat)), kT, kT, .val (iV (l.length : Nat)), kT] [] [.inl 10, .inl 11] follows S7 rfl (by kernel_rfl) ?_ ?_
  · repeat' refine And.intro ?_ ?_
    · trivial
    · exact mS 0 5
    · exact mS 0 5
    · exact mS 1 4
    · exact b_gtr_int_t wA (oO 1 34) (oO 2 35)
    · exact mO 3 36
    · exact mW (wI 4 37) (oS 0 5)
    · exact mW (wI 4 37) (oS 2 0)
    · exact b_lens (wI 4 37) (oO 6 39)
    · exact b_eql_int_t (wI 4 37) (oO 5 38) (oO 7 40)
    · exact pT wA (oO 4 37) (oO 8 41)
    · exact mO 0 33
    · exact mO 9 42
  intro B8 a8 W8 (S8 : Sta w 43 [] [(2, iV (l.length : Nat)), (3, bT)] _ _ _)
  refine wp_ret ?_
  exact end_two S8 rfl (res_tmp S8 0 2 rfl) (res_tmp S8 1 3 rfl)

set_option maxHeartbeats 400000 in
theorem cut_no (w : World) (l : List UInt8) (h : Lib.indexByte l 47 = -1) :
    Calls Tryz.prog 51 #[str l, str ([47])] w (Gives (THREE (IS (str l)) (IS (str [])) (IS (.bool false))) w) := by
  refine calls_sta (sl := [(0, (sV l)), (1, (sV ([47])))]) Tryz.func51 rfl Tryz.ntmps51 (by simp) (args_cons rfl (is_has _) (args_cons rfl (is_has _) args_nil)) ?_
  intro a0 S0
  refine wp_stmt_seq [.val (Is (str [])), .val (Is (str [])), kF] [] [.inr 0, .inr 1] follows S0 rfl (by kernel_rfl) ?_ ?_
  · refine ⟨⟨⟨trivial, ?_⟩, ?_⟩, ?_⟩
    · exact mW wA ((opnd_const _).imp (fun _ _ h => h))
    · exact mW wA ((opnd_const _).imp (fun _ _ h => h))
    · exact mC
  intro B1 a1 W1 (S1 : Sta w 23 [] [(0, sV l), (1, sV ([47]))] _ _ _)
  refine wp_seq ?_
  refine wp_stmt_seq [.val (sV l), .val (sV ([47])), .val (iV (-1)), .val (iV (-1))] [] [.inl 3, .inr 0, .inr 1] follows S1 rfl (by kernel_rfl) ?_ ?_
  · refine ⟨⟨⟨⟨trivial, ?_⟩, ?_⟩, ?_⟩, ?_⟩
    · exact mS 0 0
    · exact mS 1 1
    · exact ch2 wA (qO 0 8 rfl) (qO 1 9 rfl) (fresh_is _) (fun w u v h1 h2 => by have := g_index (l := l) w u v h1.now h2.now; rw [h] at this; exact this)
    · exact mO 2 10
  intro B2 a2 W2 (S2 : Sta w 23 [] [(7, iV (-1)), (0, sV l), (1, sV ([47]))] _ _ _)
  refine wp_stmt_seq [.val (iV (-1)), kF] [] [.inl 1, .inr 0, .inr 1, .inr 2] follows S2 rfl (by kernel_rfl) ?_ ?_
  · refine ⟨⟨trivial, ?_⟩, ?_⟩
    · exact mS 0 7
    · exact b_geq_int_f wA (oO 0 11) (opnd_const _) (h := by decide)
  intro B3 a3 W3 (S3 : Sta w 23 [] [(12, bF), (7, iV (-1)), (0, sV l), (1, sV ([47]))] _ _ _)
  refine wp_cond_false (S3.bool 0 12 rfl) ?_
  refine wp_skip ?_
  refine thenN ?_
  refine wp_stmt_seq [.val (sV l), .val (sV l), .val (Is (str [])), kF] [] [.inl 1, .inl 2, .inl 3] follows S3 rfl (by kernel_rfl) ?_ ?_
  · refine ⟨⟨⟨⟨trivial, ?_⟩, ?_⟩, ?_⟩, ?_⟩
    · exact mS 2 0
    · exact mO 0 22
    · exact mW wA ((opnd_const _).imp (fun _ _ h => h))
    · exact mC
  intro B4 a4 W4 (S4 : Sta w 23 [] [(4, sV l), (5, Is (str [])), (6, bF)] _ _ _)
  refine wp_ret ?_
  exact end_three S4 rfl (res_tmp S4 0 4 rfl) (res_tmp S4 1 5 rfl) (res_tmp S4 2 6 rfl)

set_option maxHeartbeats 400000 in
theorem cut_at (w : World) (l : List UInt8) (e : Nat) (hl : l.length ≤ 131072) (he : e < l.length) (h : Lib.indexByte l 47 = (e : Nat)) :
    Calls Tryz.prog 51 #[str l, str ([47])] w (Gives (THREE (IS (str (l.take e))) (IS (str (l.drop (e + 1)))) (IS (.bool true))) w) := by
  refine calls_sta (sl := [(0, (sV l)), (1, (sV ([47])))]) Tryz.func51 rfl Tryz.ntmps51 (by simp) (args_cons rfl (is_has _) (args_cons rfl (is_has _) args_nil)) ?_
  intro a0 S0
  refine wp_stmt_seq [.val (Is (str [])), .val (Is (str [])), kF] [] [.inr 0, .inr 1] follows S0 rfl (by kernel_rfl) ?_ ?_
  · refine ⟨⟨⟨trivial, ?_⟩, ?_⟩, ?_⟩
    · exact mW wA ((opnd_const _).imp (fun _ _ h => h))
    · exact mW wA ((opnd_const _).imp (fun _ _ h => h))
    · exact mC
  intro B1 a1 W1 (S1 : Sta w 23 [] [(0, sV l), (1, sV ([47]))] _ _ _)
  refine wp_seq ?_
  refine wp_stmt_seq [.val (sV l), .val (sV ([47])), .val (iV (e : Nat)), .val (iV (e : Nat))] [] [.inl 3, .inr 0, .inr 1] follows S1 rfl (by kernel_rfl) ?_ ?_
  · refine ⟨⟨⟨⟨trivial, ?_⟩, ?_⟩, ?_⟩, ?_⟩
    · exact mS 0 0
    · exact mS 1 1
    · exact ch2 wA (qO 0 8 rfl) (qO 1 9 rfl) (fresh_is _) (fun w u v h1 h2 => by have := g_index (l := l) w u v h1.now h2.now; rw [h] at this; exact this)
    · exact mO 2 10
  intro B2 a2 W2 (S2 : Sta w 23 [] [(7, iV (e : Nat)), (0, sV l), (1, sV ([47]))] _ _ _)
  refine wp_stmt_seq [.val (iV (e : Nat)), kT] [] [.inl 1, .inr 0, .inr 1, .inr 2] follows S2 rfl (by kernel_rfl) ?_ ?_
  · refine ⟨⟨trivial, ?_⟩, ?_⟩
    · exact mS 0 7
    · exact b_geq_int_t wA (oO 0 11) (opnd_const _)
  intro B3 a3 W3 (S3 : Sta w 23 [] [(12, bT), (7, iV (e : Nat)), (0, sV l), (1, sV ([47]))] _ _ _)
  refine wp_cond_true (S3.bool 0 12 rfl) ?_
  refine wp_stmt_seq [.val (sV l), .val (iV (e : Nat)), .val (sV (l.take e)), .val (sV l), .val (iV (e : Nat)), .val (sV ([47])), .val (iV (([47]).length : Nat)), .val (iV ((e + 1 : Nat) : Int)), .val (sV (l.drop (e + 1))), .val (sV (l.take e)), .val (sV (l.drop (e + 1))), kT] [] [.inl 9, .inl 10, .inl 11] follows S3 rfl (by kernel_rfl) ?_ ?_
  · repeat' refine And.intro ?_ ?_
    · trivial
    · exact mS 2 0
    · exact mS 1 7
    · exact owe_two rfl wA rfl (oO 0 13) (oO 1 14) rfl (fun ρ w h1 h2 => run_shi ρ _ _ _ w _ e (by omega) h1 h2)
    · exact mS 2 0
    · exact mS 1 7
    · exact mS 3 1
    · exact b_lens wA (oO 5 18)
    · exact b_add_int wA (oO 4 17) (oO 6 19) (h := ⟨by have h45 : ([47] : List UInt8).length = 1 := rfl; omega, by omega, by omega⟩)
    · exact owe_two rfl wA rfl (oO 3 16) (oO 7 20) rfl (fun ρ w h1 h2 => run_slo ρ _ _ _ w _ (e + 1) (by omega) h1 h2)
    · exact mO 2 15
    · exact mO 8 21
    · exact mC
  intro B4 a4 W4 (S4 : Sta w 23 [] [(4, sV (l.take e)), (5, sV (l.drop (e + 1))), (6, bT)] _ _ _)
  refine wp_ret ?_
  refine thenR ?_
  exact end_three S4 rfl (res_tmp S4 0 4 rfl) (res_tmp S4 1 5 rfl) (res_tmp S4 2 6 rfl)

set_option maxHeartbeats 400000 in
theorem scut_no (w : World) (l : List UInt8) (h : Lib.indexByte l 47 = -1) :
    Calls Tryz.prog 24 #[str l, str ([47])] w (Gives (THREE (IS (str l)) (IS (str [])) (IS (.bool false))) w) := by
  refine calls_sta (sl := [(0, (sV l)), (1, (sV ([47])))]) Tryz.func24 rfl Tryz.ntmps24 (by simp) (args_cons rfl (is_has _) (args_cons rfl (is_has _) args_nil)) ?_
  intro a0 S0
  refine wp_stmt_seq [.val (Is (str [])), .val (Is (str [])), kF] [] [.inr 0, .inr 1] follows S0 rfl (by kernel_rfl) ?_ ?_
  · refine ⟨⟨⟨trivial, ?_⟩, ?_⟩, ?_⟩
    · exact mW wA ((opnd_const _).imp (fun _ _ h => h))
    · exact mW wA ((opnd_const _).imp (fun _ _ h => h))
    · exact mC
  intro B1 a1 W1 (S1 : Sta w 13 [] [(0, sV l), (1, sV ([47]))] _ _ _)
  refine wp_stmt_seq [.val (sV l), .val (sV ([47])), .val ((THREE (IS (str l)) (IS (str [])) (IS (.bool false))) w.heap.size), .val (sV l), .val (Is (str [])), kF, .val (sV l), .val (Is (str [])), kF] [] [.inl 6, .inl 7, .inl 8] follows S1 rfl (by kernel_rfl) ?_ ?_
  · repeat' refine And.intro ?_ ?_
    · trivial
    · exact mS 0 0
    · exact mS 1 1
    · exact ch2 wA (qO 0 7 rfl) (qO 1 8 rfl) (fresh_three (fresh_is _) (fresh_is _) (fresh_is _)) (fun w u0 u1 hx0 hx1 => by obtain rfl : u0 = _ := hx0.now; obtain rfl : u1 = _ := hx1.now; exact cut_no w l h)
    · exact e30 wA (oO 2 9)
    · exact e31 wA (oO 2 9)
    · exact e32 wA (oO 2 9)
    · exact mO 3 10
    · exact mO 4 11
    · exact mO 5 12
  intro B2 a2 W2 (S2 : Sta w 13 [] [(4, sV l), (5, Is (str [])), (6, bF)] _ _ _)
  refine wp_ret ?_
  exact end_three S2 rfl (res_tmp S2 0 4 rfl) (res_tmp S2 1 5 rfl) (res_tmp S2 2 6 rfl)

set_option maxHeartbeats 400000 in
theorem scut_at (w : World) (l : List UInt8) (e : Nat) (hl : l.length ≤ 131072) (he : e < l.length) (h : Lib.indexByte l 47 = (e : Nat)) :
    Calls Tryz.prog 24 #[str l, str ([47])] w (Gives (THREE (IS (str (l.take e))) (IS (str (l.drop (e + 1)))) (IS (.bool true))) w) := by
  refine calls_sta (sl := [(0, (sV l)), (1, (sV ([47])))]) Tryz.func24 rfl Tryz.ntmps24 (by simp) (args_cons rfl (is_has _) (args_cons rfl (is_has _) args_nil)) ?_
  intro a0 S0
  refine wp_stmt_seq [.val (Is (str [])), .val (Is (str [])), kF] [] [.inr 0, .inr 1] follows S0 rfl (by kernel_rfl) ?_ ?_
  · refine ⟨⟨⟨trivial, ?_⟩, ?_⟩, ?_⟩
    · exact mW wA ((opnd_const _).imp (fun _ _ h => h))
    · exact mW wA ((opnd_const _).imp (fun _ _ h => h))
    · exact mC
  intro B1 a1 W1 (S1 : Sta w 13 [] [(0, sV l), (1, sV ([47]))] _ _ _)
  refine wp_stmt_seq [.val (sV l), .val (sV ([47])), .val ((THREE (IS (str (l.take e))) (IS (str (l.drop (e + 1)))) (IS (.bool true))) w.heap.size), .val (sV (l.take e)), .val (sV (l.drop (e + 1))), kT, .val (sV (l.take e)), .val (sV (l.drop (e + 1))), kT] [] [.inl 6, .inl 7, .inl 8] follows S1 rfl (by kernel_rfl) ?_ ?_
  · repeat' refine And.intro ?_ ?_
    · trivial
    · exact mS 0 0
    · exact mS 1 1
    · exact ch2 wA (qO 0 7 rfl) (qO 1 8 rfl) (fresh_three (fresh_is _) (fresh_is _) (fresh_is _)) (fun w u0 u1 hx0 hx1 => by obtain rfl : u0 = _ := hx0.now; obtain rfl : u1 = _ := hx1.now; exact cut_at w l e hl he h)
    · exact e30 wA (oO 2 9)
    · exact e31 wA (oO 2 9)
    · exact e32 wA (oO 2 9)
    · exact mO 3 10
    · exact mO 4 11
    · exact mO 5 12
  intro B2 a2 W2 (S2 : Sta w 13 [] [(4, sV (l.take e)), (5, sV (l.drop (e + 1))), (6, bT)] _ _ _)
  refine wp_ret ?_
  exact end_three S2 rfl (res_tmp S2 0 4 rfl) (res_tmp S2 1 5 rfl) (res_tmp S2 2 6 rfl)

set_option maxHeartbeats 400000 in
theorem num_0 (w : World) (t : List UInt8) (hl : t.length ≤ 65536) (hd : ∀ j, j < t.length → dgB (bt t j) = true) (h0 : t.dropWhile (· == 48) = []) :
    Calls Tryz.prog 26 #[str t] w (Gives (NN (0)) w) := by
  refine calls_sta (sl := [(0, (sV t))]) Tryz.func26 rfl Tryz.ntmps26 (by simp) (args_cons rfl (is_has _) args_nil) ?_
  intro a0 S0
  refine wp_stmt_seq [.val (Is (.slice none 0 0))] [] [.inr 0] follows S0 rfl (by kernel_rfl) ?_ ?_
  · refine ⟨trivial, ?_⟩
    · exact mC
  intro B1 a1 W1 (S1 : Sta w 43 [] [(0, sV t)] _ _ _)
  refine wp_seq ?_
  refine wp_stmt_seq [.val (sV t), .val (iV ((t).length : Nat)), kF] [] [.inl 2, .inr 0] follows S1 rfl (by kernel_rfl) ?_ ?_
  · refine ⟨⟨⟨trivial, ?_⟩, ?_⟩, ?_⟩
    · exact mS 0 0
    · exact b_lens wA (oO 0 9)
    · exact b_gtr_int_f wA (oO 1 10) (opnd_const _)
  intro B2 a2 W2 (S2 : Sta w 43 [] [(11, bF), (0, sV t)] _ _ _)
  refine wp_cond_false (S2.bool 0 11 rfl) ?_
  refine wp_skip ?_
  refine thenN ?_
  refine wp_stmt_seq [.val (sV t), .val (sV (t.dropWhile (· == 48))), .val ((THREE (NN (0)) (IS (.int .i64 0)) (IS (.int .i64 4))) w.heap.size), .val ((THREE (NN (0)) (IS (.int .i64 0)) (IS (.int .i64 4))) w.heap.size), .val ((NN (0)) w.heap.size), .val (iV 0), .val (iV 4), .val ((NN (0)) w.heap.size), .val (iV 0), .val (iV 4)] [] [.inl 7] follows S2 rfl (by kernel_rfl) ?_ ?_
  · repeat' refine And.intro ?_ ?_
    · trivial
    · exact mS 1 0
    · exact ch2 wA (qO 0 36 rfl) ((opnd_const _).imp (fun _ _ h => h)) (fresh_is _) (fun w u v h1 h2 => g_trim0 w u v h1.now h2.now)
    · exact ch1 wA (qO 1 37 rfl) (fresh_three (fresh_nn _) (fresh_is _) (fresh_is _)) (fun w u h => g_read0 h0 w u h.now)
    · exact mO 2 38
    · exact e30 wA (oO 3 35)
    · exact e31 wA (oO 3 35)
    · exact e32 wA (oO 3 35)
    · exact mO 4 39
    · exact mO 5 40
    · exact mO 6 41
  intro B3 a3 W3 (S3 : Sta w 43 [] [(6, ((NN (0)) w.heap.size))] _ _ _)
  refine wp_stmt_seq [.val ((NN (0)) w.heap.size), .val ((NN (0)) w.heap.size)] [] [.inl 1] follows S3 rfl (by kernel_rfl) ?_ ?_
  · refine ⟨⟨trivial, ?_⟩, ?_⟩
    · exact mS 0 6
    · exact mO 0 42
  intro B4 a4 W4 (S4 : Sta w 43 [] [(2, ((NN (0)) w.heap.size))] _ _ _)
  refine wp_ret ?_
  exact end_one S4 rfl (res_tmp S4 0 2 rfl)

set_option maxHeartbeats 400000 in
theorem num_1 (w : World) (t : List UInt8) (hl : t.length ≤ 65536) (hd : ∀ j, j < t.length → dgB (bt t j) = true) (h0 : t.dropWhile (· == 48) ≠ []) :
    Calls Tryz.prog 26 #[str t] w (Gives (NN (decV (t.dropWhile (· == 48)))) w) := by
  have hq : (t.dropWhile (· == 48)).length ≤ t.length := (List.dropWhile_sublist _).length_le
  refine calls_sta (sl := [(0, (sV t))]) Tryz.func26 rfl Tryz.ntmps26 (by simp) (args_cons rfl (is_has _) args_nil) ?_
  intro a0 S0
  refine wp_stmt_seq [.val (Is (.slice none 0 0))] [] [.inr 0] follows S0 rfl (by kernel_rfl) ?_ ?_
  · refine ⟨trivial, ?_⟩
    · exact mC
  intro B1 a1 W1 (S1 : Sta w 43 [] [(0, sV t)] _ _ _)
  refine wp_seq ?_
  refine wp_stmt_seq [.val (sV t), .val (iV ((t).length : Nat)), kF] [] [.inl 2, .inr 0] follows S1 rfl (by kernel_rfl) ?_ ?_
  · refine ⟨⟨⟨trivial, ?_⟩, ?_⟩, ?_⟩
    · exact mS 0 0
    · exact b_lens wA (oO 0 9)
    · exact b_gtr_int_f wA (oO 1 10) (opnd_const _)
  intro B2 a2 W2 (S2 : Sta w 43 [] [(11, bF), (0, sV t)] _ _ _)
  refine wp_cond_false (S2.bool 0 11 rfl) ?_
  refine wp_skip ?_
  refine thenN ?_
  refine wp_stmt_seq [.val (sV t), .val (sV (t.dropWhile (· == 48))), .val ((THREE (NN (decV (t.dropWhile (· == 48)))) (IS (.int .i64 0)) (IS (.int .i64 0))) w.heap.size), .val ((THREE (NN (decV (t.dropWhile (· == 48)))) (IS (.int .i64 0)) (IS (.int .i64 0))) w.heap.size), .val ((NN (decV (t.dropWhile (· == 48)))) w.heap.size), .val (iV 0), .val (iV 0), .val ((NN (decV (t.dropWhile (· == 48)))) w.heap.size), .val (iV 0), .val (iV 0)] [] [.inl 7] follows S2 rfl (by kernel_rfl) ?_ ?_
  · repeat' refine And.intro ?_ ?_
    · trivial
    · exact mS 1 0
    · exact ch2 wA (qO 0 36 rfl) ((opnd_const _).imp (fun _ _ h => h)) (fresh_is _) (fun w u v h1 h2 => g_trim0 w u v h1.now h2.now)
    · exact ch1 wA (qO 1 37 rfl) (fresh_three (fresh_nn _) (fresh_is _) (fresh_is _)) (fun w u h => g_readok (by omega) (List.length_pos_iff.2 h0) (trim_good hd h0) w u h.now)
    · exact mO 2 38
    · exact e30 wA (oO 3 35)
    · exact e31 wA (oO 3 35)
    · exact e32 wA (oO 3 35)
    · exact mO 4 39
    · exact mO 5 40
    · exact mO 6 41
  intro B3 a3 W3 (S3 : Sta w 43 [] [(6, ((NN (decV (t.dropWhile (· == 48)))) w.heap.size))] _ _ _)
  refine wp_stmt_seq [.val ((NN (decV (t.dropWhile (· == 48)))) w.heap.size), .val ((NN (decV (t.dropWhile (· == 48)))) w.heap.size)] [] [.inl 1] follows S3 rfl (by kernel_rfl) ?_ ?_
  · refine ⟨⟨trivial, ?_⟩, ?_⟩
    · exact mS 0 6
    · exact mO 0 42
  intro B4 a4 W4 (S4 : Sta w 43 [] [(2, ((NN (decV (t.dropWhile (· == 48)))) w.heap.size))] _ _ _)
  refine wp_ret ?_
  exact end_one S4 rfl (res_tmp S4 0 2 rfl)

theorem num_s (w : World) (t : List UInt8) (hl : t.length ≤ 65536) (hd : ∀ j, j < t.length → dgB (bt t j) = true) : Calls Tryz.prog 26 #[str t] w (Gives (NN (decV t)) w) := by
  rw [← trim_dec t]
  by_cases h0 : t.dropWhile (· == 48) = []
  · have := num_0 w t hl hd h0
    rw [h0]
    exact this
  · exact num_1 w t hl hd h0

end Go.Proofs.YtaplbadcpbollaaGreatDoor

/-
  rat.number, rat.Read.
-/
namespace Go.Proofs.YtaplbadcpbollaaGreatDoor
open Go Go.RowKit Nt
set_option linter.unusedSimpArgs false
set_option linter.unusedVariables false
set_option maxRecDepth 20000


theorem nR_one (A : Int) : nR A 1 = A := by
  unfold nR
  rw [Nat.gcd_one_right, Nat.div_one]
  unfold sg ng
  by_cases h : A < 0
  · simp [h]; omega
  · simp [h]; omega
theorem dR_one (A : Int) : dR A 1 = 1 := by unfold dR; rw [Nat.gcd_one_right]
theorem run_neN (ρ : Operand → Value) (o : Oper) (x y : Operand) (w : World) (l : List UInt8) (h1 : ρ x = str (tl l)) (h2 : ρ y = str l) : (execOp ρ { o with op := .binOp .neq 9 x y 9 }).run Tryz.prog w = .ok (.value (.bool (isN l))) w := by
  cases e : isN l with
  | false => exact run_neq_string_f ρ o x y w _ _ (tl_f e) h1 h2
  | true =>
    have hne : (⟨(tl l).toArray⟩ : ByteArray) ≠ ⟨l.toArray⟩ := fun e' => tl_ne e (by have e2 := congrArg (fun s => s.data.toList) e'; simpa using e2)
    unfold str at h1 h2
    unfold execOp
    go_simp
    first | exact tl_ne e | exact hne
theorem pow10_dl {n : Nat} (h : 0 < n) : (digs (10 ^ n)).length ≤ n := digs_length_le (Nat.pow_lt_pow_left (by omega) (by omega))
theorem decV_49 : decV [49] = 1 := by decide
theorem g_radd1 {x y ka kb : Nat} (hk : ka ≤ 35184372088831) (hk' : kb ≤ 35184372088831) : ∀ w u v, Nv x ka u w → Nv y kb v w → Calls Tryz.prog 58 #[u, v] w (Gives (NN (x + y)) w) := by
  rintro w u v ⟨p, n, c, xs, rfl, h, rfl, hn⟩ ⟨q, m, d, ys, rfl, h', rfl, hm⟩
  refine (radd_c w p q n c m d xs ys h h' (by omega) (by omega)).mono ?_
  rintro e w' ⟨r, cr, rfl, A⟩
  exact ⟨_, rfl, A.below, ans_nn A⟩
theorem g_rmul1 {x y ka kb : Nat} (hk : ka + kb ≤ 35184372088832) : ∀ w u v, Nv x ka u w → Nv y kb v w → Calls Tryz.prog 59 #[u, v] w (Gives (NN (x * y)) w) := by
  rintro w u v ⟨p, n, c, xs, rfl, h, rfl, hn⟩ ⟨q, m, d, ys, rfl, h', rfl, hm⟩
  refine (rmul_c w p q n c m d xs ys h h' (by omega)).mono ?_
  rintro e w' ⟨r, cr, rfl, A⟩
  exact ⟨_, rfl, A.below, ans_nn A⟩

set_option maxHeartbeats 2000000 in
theorem num_b (w : World) (t : List UInt8) (L0 q : Nat) (hL0 : L0 = 65536) (hq : t.length = q + 65536) (hq0 : 0 < q) (hq1 : q ≤ 65536) (hd : ∀ j, j < t.length → dgB (bt t j) = true) :
    Calls Tryz.prog 26 #[str t] w (Gives (NN (decV t)) w) := by
  have hqa : (digs (decV (t.take q))).length ≤ 65536 := decV_dl (dig_take hd q) (by simp; omega)
  have hqb : (digs (decV (t.drop q))).length ≤ 65536 := decV_dl (dig_drop hd q) (by simp; omega)
  have hqp : (digs (10 ^ L0)).length ≤ 65536 := by have := pow10_dl (n := L0) (by omega); omega
  have hqm : (digs ((decV (t.take q)) * (10 ^ L0))).length ≤ 131072 := digs_mul_len hqa hqp
  have hst : (decV (t.take q)) * (10 ^ L0) + decV (t.drop q) = decV t := by
      have := decV_app (t.take q) (t.drop q)
      rw [List.take_append_drop, List.length_drop, show t.length - q = L0 by omega] at this
      exact this.symm
  refine calls_sta (sl := [(0, (sV t))]) Tryz.func26 rfl Tryz.ntmps26 (by simp) (args_cons rfl (is_has _) args_nil) ?_
  intro a0 S0
  refine wp_stmt_seq [.val (Is (.slice none 0 0))] [] [.inr 0] follows S0 rfl (by kernel_rfl) ?_ ?_
  · refine ⟨trivial, ?_⟩
    · exact mC
  intro B1 a1 W1 (S1 : Sta w 43 [] [(0, sV t)] _ _ _)
  refine wp_seq ?_
  refine wp_stmt_seq [.val (sV t), .val (iV ((t).length : Nat)), kT] [] [.inl 2, .inr 0] follows S1 rfl (by kernel_rfl) ?_ ?_
  · refine ⟨⟨⟨trivial, ?_⟩, ?_⟩, ?_⟩
    · exact mS 0 0
    · exact b_lens wA (oO 0 9)
    · exact b_gtr_int_t wA (oO 1 10) (opnd_const _)
  intro B2 a2 W2 (S2 : Sta w 43 [] [(11, bT), (0, sV t)] _ _ _)
  refine wp_cond_true (S2.bool 0 11 rfl) ?_
  refine wp_stmt_seq [.val (iV 65536)] [] [.inl 0, .inr 1] follows S2 rfl (by kernel_rfl) ?_ ?_
  · refine ⟨trivial, ?_⟩
    · exact mC
  intro B3 a3 W3 (S3 : Sta w 43 [] [(3, iV 65536), (0, sV t)] _ _ _)
  · skip
    have e65 : (65536 : Int) = ((L0 : Nat) : Int) := by omega
    rw [e65] at S3
    replace S3 : Sta w 43 [] [(3, iV ((L0 : Nat) : Int)), (0, sV t)] B3 a3 W3 := S3
    refine wp_stmt_seq [.val ((BS 10) w.heap.size), .val (iV ((L0 : Nat) : Int)), .val ((TWO (NN (10 ^ L0)) (IS (.int .i64 0))) w.heap.size), .val ((TWO (NN (10 ^ L0)) (IS (.int .i64 0))) w.heap.size), .val ((NN (10 ^ L0)) w.heap.size), .val (iV 0), .val ((NN (10 ^ L0)) w.heap.size), .val (iV 0)] [] [.inl 6, .inr 0, .inr 1] follows S3 rfl (by kernel_rfl) ?_ ?_
    · repeat' refine And.intro ?_ ?_
      · trivial
      · exact owe_bs rfl wA rfl (opnd_const _) (by decide) rfl
      · exact mS 0 3
      · exact cc2 wA (qO 0 13 rfl) (qO 1 14 rfl) (fresh_two (fresh_nn _) (fresh_is _)) (fun w u v h1 h2 => by have := g_pow (x := 10) (k := 1) (z := ((L0 : Nat) : Int)) (by omega) (by omega) (Or.inr (Or.inr (by rw [show Go.bitLen 10 = 4 from by decide]; omega))) w u v (bs_nv _ _ h1) h2; rw [Int.toNat_natCast] at this; exact this)
      · exact mO 2 15
      · exact e20 wA (oO 3 12)
      · exact e21 wA (oO 3 12)
      · exact mO 4 16
      · exact mO 5 17
    intro B4 a4 W4 (S4 : Sta w 43 [] [(4, ((NN (10 ^ L0)) w.heap.size)), (3, iV ((L0 : Nat) : Int)), (0, sV t)] _ _ _)
    refine wp_stmt_seq [.val (sV t), .val (sV t), .val (iV ((t).length : Nat)), .val (iV ((L0 : Nat) : Int)), .val (iV ((q : Nat) : Int)), .val (sV (t.take q)), .val ((NN (decV (t.take q))) w.heap.size), .val ((NN (10 ^ L0)) w.heap.size), .val ((NN ((decV (t.take q)) * (10 ^ L0))) w.heap.size), .val (sV t), .val (sV t), .val (iV ((t).length : Nat)), .val (iV ((L0 : Nat) : Int)), .val (iV ((q : Nat) : Int)), .val (sV (t.drop q)), .val ((NN (decV (t.drop q))) w.heap.size), .val ((NN (decV t)) w.heap.size), .val ((NN (decV t)) w.heap.size)] [] [.inl 17] follows S4 rfl (by kernel_rfl) ?_ ?_
    · repeat' refine And.intro ?_ ?_
      · trivial
      · exact mS 2 0
      · exact mS 2 0
      · exact b_lens wA (oO 1 19)
      · exact mS 1 3
      · exact b_sub_int wA (oO 2 20) (oO 3 21)
      · exact owe_two rfl wA rfl (oO 0 18) (oO 4 22) rfl (fun ρ w h1 h2 => run_shi ρ _ _ _ w _ q (by omega) h1 h2)
      · exact ch1 wA (qO 5 23 rfl) (fresh_nn _) (fun w u h => by obtain rfl : u = _ := h.now; exact num_s w _ (by simp; omega) (dig_take hd q))
      · exact mS 0 4
      · exact cc2 wA (qO 6 24 rfl) (qO 7 25 rfl) (fresh_nn _) (fun w u v h1 h2 => g_mul (by omega) w u v ((nn_nv hqa) _ _ h1) ((nn_nv hqp) _ _ h2))
      · exact mS 2 0
      · exact mS 2 0
      · exact b_lens wA (oO 10 28)
      · exact mS 1 3
      · exact b_sub_int wA (oO 11 29) (oO 12 30)
      · exact owe_two rfl wA rfl (oO 9 27) (oO 13 31) rfl (fun ρ w h1 h2 => run_slo ρ _ _ _ w _ q (by omega) h1 h2)
      · exact ch1 wA (qO 14 32 rfl) (fresh_nn _) (fun w u h => by obtain rfl : u = _ := h.now; exact num_s w _ (by simp; omega) (dig_drop hd q))
      · exact cc2 wA (qO 8 26 rfl) (qO 15 33 rfl) (fresh_nn _) (fun w u0 u1 h0 h1 => Gives.cast ((fun w u v h1 h2 => g_add (by omega) (by omega) w u v ((nn_nv hqm) _ _ h1) ((nn_nv hqb) _ _ h2)) w u0 u1 h0 h1) (by rw [hst]))
      · exact mO 16 34
    intro B5 a5 W5 (S5 : Sta w 43 [] [(2, ((NN (decV t)) w.heap.size))] _ _ _)
    refine wp_ret ?_
    refine thenR ?_
    exact end_one S5 rfl (res_tmp S5 0 2 rfl)

theorem num_w (w : World) (t : List UInt8) (hl : t.length ≤ 131072) (hd : ∀ j, j < t.length → dgB (bt t j) = true) : Calls Tryz.prog 26 #[str t] w (Gives (NN (decV t)) w) := by
  rcases Nat.lt_or_ge 65536 t.length with h | h
  · exact num_b w t 65536 (t.length - 65536) rfl (by omega) (by omega) (by omega) hd
  · exact num_s w t h hd
theorem num_one (w : World) : Calls Tryz.prog 26 #[str [49]] w (Gives (NN 1) w) := by
  have := num_w w [49] (by decide) (fun j hj => by
    have e : j = 0 := by simp at hj; exact hj
    subst e
    decide)
  rw [decV_49] at this
  exact this

set_option maxHeartbeats 400000 in
theorem rrd_long (w : World) (l : List UInt8) (h : 131072 < l.length) :
    Calls Tryz.prog 8 #[str l] w (Gives (THREE (IS (.agg #[.bool false, .slice none 0 0, .bool false, .slice none 0 0])) (IS (.int .i64 0)) (IS (.int .i64 2))) w) := by
  refine calls_sta (sl := [(0, (sV l))]) Tryz.func8 rfl Tryz.ntmps8 (by simp) (args_cons rfl (is_has _) args_nil) ?_
  intro a0 S0
  refine wp_stmt_seq [.new (.box 26 zR), .val (iV 0), .val (iV 0)] [.inl 0] [.inr 0] follows S0 rfl (by kernel_rfl) ?_ ?_
  · refine ⟨⟨⟨trivial, ?_⟩, ?_⟩, ?_⟩
    · exact owe_new rfl wA rfl rfl (fun ρ w => alloc_rat ρ _ w)
    · exact mC
    · exact mC
  intro B1 a1 W1 (S1 : Sta w 46 [(2, (.box 26 zR))] [(0, sV l)] _ _ _)
  refine wp_seq ?_
  refine wp_stmt_seq [.val (sV l), .val (iV ((l).length : Nat)), kT] [.inr 0] [.inl 2, .inr 0] follows S1 rfl (by kernel_rfl) ?_ ?_
  · refine ⟨⟨⟨trivial, ?_⟩, ?_⟩, ?_⟩
    · exact mS 0 0
    · exact b_lens wA (oO 0 12)
    · exact b_gtr_int_t wA (oO 1 13) (opnd_const _)
  intro B2 a2 W2 (S2 : Sta w 46 [(2, (.box 26 zR))] [(14, bT), (0, sV l)] _ _ _)
  refine wp_cond_true (S2.bool 0 14 rfl) ?_
  refine wp_stmt_seq [.val zR, .put (.inl 2) (.box 26 zR), .val (iV 0), .val (iV 2)] [.inr 0] [.inl 2, .inl 3] follows S2 rfl (by kernel_rfl) ?_ ?_
  · refine ⟨⟨⟨⟨trivial, ?_⟩, ?_⟩, ?_⟩, ?_⟩
    · exact owe_build_rat rfl wA rfl rfl
    · exact owe_set rfl wA rfl (k := 0) rfl (by kernel_rfl) (oO 0 15) (stores_of strct_rat shp_r0 shp_r0) rfl
    · exact mC
    · exact mC
  intro B3 a3 W3 (S3 : Sta w 46 [(2, (.box 26 zR))] [(3, iV 0), (4, iV 2)] _ _ _)
  refine wp_ret ?_
  refine thenR ?_
  exact end_three S3 rfl (res_cell S3 0 2 rfl strct_rat shp_r0) (res_tmp S3 0 3 rfl) (res_tmp S3 1 4 rfl)

set_option maxHeartbeats 400000 in
theorem rrd_bad (w : World) (l : List UInt8) (A0 : Nat) (hl : l.length ≤ 131072) (hend : ∀ w, Calls Tryz.prog 23 #[str l] w (Gives (TWO (IS (.int .i64 (A0 : Nat))) (IS (.bool false))) w)) :
    Calls Tryz.prog 8 #[str l] w (Gives (THREE (IS (.agg #[.bool false, .slice none 0 0, .bool false, .slice none 0 0])) (IS (.int .i64 (A0 : Nat))) (IS (.int .i64 4))) w) := by
  refine calls_sta (sl := [(0, (sV l))]) Tryz.func8 rfl Tryz.ntmps8 (by simp) (args_cons rfl (is_has _) args_nil) ?_
  intro a0 S0
  refine wp_stmt_seq [.new (.box 26 zR), .val (iV 0), .val (iV 0)] [.inl 0] [.inr 0] follows S0 rfl (by kernel_rfl) ?_ ?_
  · refine ⟨⟨⟨trivial, ?_⟩, ?_⟩, ?_⟩
    · exact owe_new rfl wA rfl rfl (fun ρ w => alloc_rat ρ _ w)
    · exact mC
    · exact mC
  intro B1 a1 W1 (S1 : Sta w 46 [(2, (.box 26 zR))] [(0, sV l)] _ _ _)
  refine wp_seq ?_
  refine wp_stmt_seq [.val (sV l), .val (iV ((l).length : Nat)), kF] [.inr 0] [.inl 2, .inr 0] follows S1 rfl (by kernel_rfl) ?_ ?_
  · refine ⟨⟨⟨trivial, ?_⟩, ?_⟩, ?_⟩
    · exact mS 0 0
    · exact b_lens wA (oO 0 12)
    · exact b_gtr_int_f wA (oO 1 13) (opnd_const _)
  intro B2 a2 W2 (S2 : Sta w 46 [(2, (.box 26 zR))] [(14, bF), (0, sV l)] _ _ _)
  refine wp_cond_false (S2.bool 0 14 rfl) ?_
  refine wp_skip ?_
  refine thenN ?_
  refine wp_seq ?_
  refine wp_stmt_seq [.val (sV l), .val ((TWO (IS (.int .i64 (A0 : Nat))) (IS (.bool false))) w.heap.size), .val ((TWO (IS (.int .i64 (A0 : Nat))) (IS (.bool false))) w.heap.size), .val (iV (A0 : Nat)), kF, .val (iV (A0 : Nat)), kF] [.inr 0] [.inl 5, .inl 6, .inr 1] follows S2 rfl (by kernel_rfl) ?_ ?_
  · repeat' refine And.intro ?_ ?_
    · trivial
    · exact mS 1 0
    · exact ch1 wA (qO 0 17 rfl) (fresh_two (fresh_is _) (fresh_is _)) (fun w u h => by obtain rfl : u = _ := h.now; exact hend w)
    · exact mO 1 18
    · exact e20 wA (oO 2 16)
    · exact e21 wA (oO 2 16)
    · exact mO 3 19
    · exact mO 4 20
  intro B3 a3 W3 (S3 : Sta w 46 [(2, (.box 26 zR))] [(5, iV (A0 : Nat)), (6, bF), (0, sV l)] _ _ _)
  refine wp_stmt_seq [kF, kT] [.inr 0] [.inl 1, .inr 0, .inr 2] follows S3 rfl (by kernel_rfl) ?_ ?_
  · refine ⟨⟨trivial, ?_⟩, ?_⟩
    · exact mS 1 6
    · exact b_not wA (oO 0 21)
  intro B4 a4 W4 (S4 : Sta w 46 [(2, (.box 26 zR))] [(22, bT), (5, iV (A0 : Nat)), (0, sV l)] _ _ _)
  refine wp_cond_true (S4.bool 0 22 rfl) ?_
  refine wp_stmt_seq [.val zR, .val (iV (A0 : Nat)), .put (.inl 2) (.box 26 zR), .val (iV (A0 : Nat)), .val (iV 4)] [.inr 0] [.inl 3, .inl 4] follows S4 rfl (by kernel_rfl) ?_ ?_
  · refine ⟨⟨⟨⟨⟨trivial, ?_⟩, ?_⟩, ?_⟩, ?_⟩, ?_⟩
    · exact owe_build_rat rfl wA rfl rfl
    · exact mS 1 5
    · exact owe_set rfl wA rfl (k := 0) rfl (by kernel_rfl) (oO 0 23) (stores_of strct_rat shp_r0 shp_r0) rfl
    · exact mO 1 24
    · exact mC
  intro B5 a5 W5 (S5 : Sta w 46 [(2, (.box 26 zR))] [(3, iV (A0 : Nat)), (4, iV 4)] _ _ _)
  refine wp_ret ?_
  refine thenR ?_
  exact end_three S5 rfl (res_cell S5 0 2 rfl strct_rat shp_r0) (res_tmp S5 0 3 rfl) (res_tmp S5 1 4 rfl)

set_option maxHeartbeats 2000000 in
theorem rrd_whole (w : World) (l : List UInt8) (hl : l.length ≤ 131072) (hi : Lib.indexByte l 47 = -1) (hdt : ∀ j, j < (tl l).length → dgB (bt (tl l) j) = true) (hend : ∀ w, Calls Tryz.prog 23 #[str l] w (Gives (TWO (IS (.int .i64 (l.length : Nat))) (IS (.bool true))) w)) :
    Calls Tryz.prog 8 #[str l] w (Gives (THREE (RN (nR (sg (isN l) (decV (tl l))) (1)) (dR (sg (isN l) (decV (tl l))) (1))) (IS (.int .i64 0)) (IS (.int .i64 0))) w) := by
  have htl : (tl l).length ≤ 131072 := by
      unfold tl
      split
      · simp; omega
      · exact hl
  have hqa : (digs (decV (tl l))).length ≤ 131072 := decV_dl hdt htl
  have hq1 : (digs 1).length ≤ 1 := digs_length_le (by decide)
  refine calls_sta (sl := [(0, (sV l))]) Tryz.func8 rfl Tryz.ntmps8 (by simp) (args_cons rfl (is_has _) args_nil) ?_
  intro a0 S0
  refine wp_stmt_seq [.new (.box 26 zR), .val (iV 0), .val (iV 0)] [.inl 0] [.inr 0] follows S0 rfl (by kernel_rfl) ?_ ?_
  · refine ⟨⟨⟨trivial, ?_⟩, ?_⟩, ?_⟩
    · exact owe_new rfl wA rfl rfl (fun ρ w => alloc_rat ρ _ w)
    · exact mC
    · exact mC
  intro B1 a1 W1 (S1 : Sta w 46 [(2, (.box 26 zR))] [(0, sV l)] _ _ _)
  refine wp_seq ?_
  refine wp_stmt_seq [.val (sV l), .val (iV ((l).length : Nat)), kF] [.inr 0] [.inl 2, .inr 0] follows S1 rfl (by kernel_rfl) ?_ ?_
  · refine ⟨⟨⟨trivial, ?_⟩, ?_⟩, ?_⟩
    · exact mS 0 0
    · exact b_lens wA (oO 0 12)
    · exact b_gtr_int_f wA (oO 1 13) (opnd_const _)
  intro B2 a2 W2 (S2 : Sta w 46 [(2, (.box 26 zR))] [(14, bF), (0, sV l)] _ _ _)
  refine wp_cond_false (S2.bool 0 14 rfl) ?_
  refine wp_skip ?_
  refine thenN ?_
  refine wp_seq ?_
  refine wp_stmt_seq [.val (sV l), .val ((TWO (IS (.int .i64 (l.length : Nat))) (IS (.bool true))) w.heap.size), .val ((TWO (IS (.int .i64 (l.length : Nat))) (IS (.bool true))) w.heap.size), .val (iV (l.length : Nat)), kT, .val (iV (l.length : Nat)), kT] [.inr 0] [.inl 5, .inl 6, .inr 1] follows S2 rfl (by kernel_rfl) ?_ ?_
  · repeat' refine And.intro ?_ ?_
    · trivial
    · exact mS 1 0
    · exact ch1 wA (qO 0 17 rfl) (fresh_two (fresh_is _) (fresh_is _)) (fun w u h => by obtain rfl : u = _ := h.now; exact hend w)
    · exact mO 1 18
    · exact e20 wA (oO 2 16)
    · exact e21 wA (oO 2 16)
    · exact mO 3 19
    · exact mO 4 20
  intro B3 a3 W3 (S3 : Sta w 46 [(2, (.box 26 zR))] [(5, iV (l.length : Nat)), (6, bT), (0, sV l)] _ _ _)
  refine wp_stmt_seq [kT, kF] [.inr 0] [.inl 1, .inr 0, .inr 2] follows S3 rfl (by kernel_rfl) ?_ ?_
  · refine ⟨⟨trivial, ?_⟩, ?_⟩
    · exact mS 1 6
    · exact b_not wA (oO 0 21)
  intro B4 a4 W4 (S4 : Sta w 46 [(2, (.box 26 zR))] [(22, bF), (5, iV (l.length : Nat)), (0, sV l)] _ _ _)
  refine wp_cond_false (S4.bool 0 22 rfl) ?_
  refine wp_skip ?_
  refine thenN ?_
  refine wp_stmt_seq [.val (sV l), .val ((THREE (IS (str l)) (IS (str [])) (IS (.bool false))) w.heap.size), .val ((THREE (IS (str l)) (IS (str [])) (IS (.bool false))) w.heap.size), .val (sV l), .val (Is (str [])), kF, .val (sV l), .val (Is (str [])), kF] [.inr 0] [.inl 6, .inl 7, .inl 8] follows S4 rfl (by kernel_rfl) ?_ ?_
  · repeat' refine And.intro ?_ ?_
    · trivial
    · exact mS 2 0
    · exact ch2 wA (qO 0 26 rfl) ((opnd_const _).imp (fun _ _ h => h)) (fresh_three (fresh_is _) (fresh_is _) (fresh_is _)) (fun w u v h1 h2 => by obtain rfl : u = _ := h1.now; obtain rfl : v = _ := h2.now; exact scut_no w l hi)
    · exact mO 1 27
    · exact e30 wA (oO 2 25)
    · exact e31 wA (oO 2 25)
    · exact e32 wA (oO 2 25)
    · exact mO 3 28
    · exact mO 4 29
    · exact mO 5 30
  intro B5 a5 W5 (S5 : Sta w 46 [(2, (.box 26 zR))] [(7, sV l), (8, Is (str [])), (9, bF)] _ _ _)
  refine wp_seq ?_
  refine wp_stmt_seq [kF, kT] [.inr 0] [.inl 1, .inr 0, .inr 1] follows S5 rfl (by kernel_rfl) ?_ ?_
  · refine ⟨⟨trivial, ?_⟩, ?_⟩
    · exact mS 2 9
    · exact b_not wA (oO 0 31)
  intro B6 a6 W6 (S6 : Sta w 46 [(2, (.box 26 zR))] [(32, bT), (7, sV l), (8, Is (str []))] _ _ _)
  refine wp_cond_true (S6.bool 0 32 rfl) ?_
  refine wp_stmt [.val (Is (str [49]))] [.inr 0] [.inl 0, .inr 1] follows S6 rfl (by kernel_rfl) ?_ ?_
  · refine ⟨trivial, ?_⟩
    · exact mW wA ((opnd_const _).imp (fun _ _ h => h))
  intro B7 a7 W7 (S7 : Sta w 46 [(2, (.box 26 zR))] [(8, Is (str [49])), (7, sV l)] _ _ _)
  refine thenN ?_
  refine wp_stmt_seq [.val (sV l), .val (sV (tl l)), .val (sV (tl l))] [.inr 0] [.inl 2, .inr 0, .inr 1] follows S7 rfl (by kernel_rfl) ?_ ?_
  · refine ⟨⟨⟨trivial, ?_⟩, ?_⟩, ?_⟩
    · exact mS 1 7
    · exact ch2 wA (qO 0 33 rfl) ((opnd_const _).imp (fun _ _ h => h)) (fresh_is _) (fun w u v h1 h2 => by obtain rfl : u = _ := h1.now; obtain rfl : v = _ := h2.now; exact trimp_w w l)
    · exact mO 1 34
  intro B8 a8 W8 (S8 : Sta w 46 [(2, (.box 26 zR))] [(10, sV (tl l)), (8, Is (str [49])), (7, sV l)] _ _ _)
  refine wp_stmt_seq [.val (sV (tl l)), .val (sV l), .val (Is (.bool (isN l))), .val (sV (tl l)), .val ((NN (decV (tl l))) w.heap.size), .val (Zv (sg (isN l) (decV (tl l))) 131072), .new (.box 24 zI), .put (.inr 6) (.box 24 (Zv (sg (isN l) (decV (tl l))) 131072))] [.inr 0, .inl 6] [.inr 1] follows S8 rfl (by kernel_rfl) ?_ ?_
  · repeat' refine And.intro ?_ ?_
    · trivial
    · exact mS 0 10
    · exact mS 2 7
    · exact owe_bin rfl wA rfl (oO 0 35) (oO 1 36) rfl (fun ρ w h1 h2 => by exact run_neN ρ _ _ _ w l h1 h2)
    · exact mS 0 10
    · exact ch1 wA (qO 3 38 rfl) (fresh_nn _) (fun w u h => by obtain rfl : u = _ := h.now; exact num_w w _ (by exact htl) hdt)
    · exact owe_bint2 rfl wA rfl (oO 2 37) ((oO 4 39).imp (nn_nv hqa)) rfl
    · exact owe_new rfl wA rfl rfl (fun ρ w => alloc_int ρ _ w)
    · exact owe_put 6 rfl wA rfl (by kernel_rfl) rfl (oO 5 40) (stores_of strct_int shp_z0 shp_zv) rfl
  intro B9 a9 W9 (S9 : Sta w 46 [(2, (.box 26 zR)), (11, (.box 24 (Zv (sg (isN l) (decV (tl l))) 131072)))] [(8, Is (str [49]))] _ _ _)
  refine wp_stmt_seq [.val (Zv (sg (isN l) (decV (tl l))) 131072), .val (Is (str [49])), .val ((NN (1)) w.heap.size), .val (Zv (sg false 1) 1), .val ((RN (nR (sg (isN l) (decV (tl l))) (1)) (dR (sg (isN l) (decV (tl l))) (1))) w.heap.size), .put (.inl 2) (.box 26 ((RN (nR (sg (isN l) (decV (tl l))) (1)) (dR (sg (isN l) (decV (tl l))) (1))) w.heap.size)), .val (iV 0), .val (iV 0)] [.inr 0] [.inl 6, .inl 7] follows S9 rfl (by kernel_rfl) ?_ ?_
  · repeat' refine And.intro ?_ ?_
    · trivial
    · exact lod 1 wA (loads_of strct_int shp_zv)
    · exact mS 0 8
    · exact ch1 wA (qO 1 42 rfl) (fresh_nn _) (fun w u h => by obtain rfl : u = _ := h.now; exact num_one w)
    · exact owe_bint1 rfl wA rfl ((oO 2 43).imp (nn_nv hq1)) rfl
    · exact cc2 wA (qO 0 41 rfl) (qO 3 44 rfl) (fresh_rn _ _) (fun w u v h1 h2 => g_lowest (A := sg (isN l) (decV (tl l))) (D := 1) (by decide) (by omega) (by omega) w u v h1 h2)
    · exact owe_set rfl wA rfl (k := 0) rfl (by kernel_rfl) (oO 4 45) (stores_of strct_rat shp_r0 (shp_pr shp_zn shp_zn)) rfl
    · exact mC
    · exact mC
  intro B10 a10 W10 (S10 : Sta w 46 [(2, (.box 26 ((RN (nR (sg (isN l) (decV (tl l))) (1)) (dR (sg (isN l) (decV (tl l))) (1))) w.heap.size)))] [(3, iV 0), (4, iV 0)] _ _ _)
  refine wp_ret ?_
  exact end_three S10 rfl (res_cell S10 0 2 rfl strct_rat (shp_pr shp_zn shp_zn)) (res_tmp S10 0 3 rfl) (res_tmp S10 1 4 rfl)

set_option maxHeartbeats 2000000 in
theorem rrd_frac (w : World) (l : List UInt8) (e : Nat) (hl : l.length ≤ 131072) (he : e < l.length) (hi : Lib.indexByte l 47 = (e : Nat)) (hdt : ∀ j, j < (tl (l.take e)).length → dgB (bt (tl (l.take e)) j) = true) (hdd : ∀ j, j < (l.drop (e + 1)).length → dgB (bt (l.drop (e + 1)) j) = true) (hD : decV (l.drop (e + 1)) ≠ 0) (hend : ∀ w, Calls Tryz.prog 23 #[str l] w (Gives (TWO (IS (.int .i64 (l.length : Nat))) (IS (.bool true))) w)) :
    Calls Tryz.prog 8 #[str l] w (Gives (THREE (RN (nR (sg (isN (l.take e)) (decV (tl (l.take e)))) (decV (l.drop (e + 1)))) (dR (sg (isN (l.take e)) (decV (tl (l.take e)))) (decV (l.drop (e + 1))))) (IS (.int .i64 0)) (IS (.int .i64 0))) w) := by
  have hte : (l.take e).length ≤ 131072 := by simp; omega
  have htl : (tl (l.take e)).length ≤ 131072 := by
      unfold tl
      split
      · simp; omega
      · exact hte
  have hqa : (digs (decV (tl (l.take e)))).length ≤ 131072 := decV_dl hdt htl
  have hqd : (digs (decV (l.drop (e + 1)))).length ≤ 131072 := decV_dl hdd (by simp; omega)
  refine calls_sta (sl := [(0, (sV l))]) Tryz.func8 rfl Tryz.ntmps8 (by simp) (args_cons rfl (is_has _) args_nil) ?_
  intro a0 S0
  refine wp_stmt_seq [.new (.box 26 zR), .val (iV 0), .val (iV 0)] [.inl 0] [.inr 0] follows S0 rfl (by kernel_rfl) ?_ ?_
  · refine ⟨⟨⟨trivial, ?_⟩, ?_⟩, ?_⟩
    · exact owe_new rfl wA rfl rfl (fun ρ w => alloc_rat ρ _ w)
    · exact mC
    · exact mC
  intro B1 a1 W1 (S1 : Sta w 46 [(2, (.box 26 zR))] [(0, sV l)] _ _ _)
  refine wp_seq ?_
  refine wp_stmt_seq [.val (sV l), .val (iV ((l).length : Nat)), kF] [.inr 0] [.inl 2, .inr 0] follows S1 rfl (by kernel_rfl) ?_ ?_
  · refine ⟨⟨⟨trivial, ?_⟩, ?_⟩, ?_⟩
    · exact mS 0 0
    · exact b_lens wA (oO 0 12)
    · exact b_gtr_int_f wA (oO 1 13) (opnd_const _)
  intro B2 a2 W2 (S2 : Sta w 46 [(2, (.box 26 zR))] [(14, bF), (0, sV l)] _ _ _)
  refine wp_cond_false (S2.bool 0 14 rfl) ?_
  refine wp_skip ?_
  refine thenN ?_
  refine wp_seq ?_
  refine wp_stmt_seq [.val (sV l), .val ((TWO (IS (.int .i64 (l.length : Nat))) (IS (.bool true))) w.heap.size), .val ((TWO (IS (.int .i64 (l.length : Nat))) (IS (.bool true))) w.heap.size), .val (iV (l.length : Nat)), kT, .val (iV (l.length : Nat)), kT] [.inr 0] [.inl 5, .inl 6, .inr 1] follows S2 rfl (by kernel_rfl) ?_ ?_
  · repeat' refine And.intro ?_ ?_
    · trivial
    · exact mS 1 0
    · exact ch1 wA (qO 0 17 rfl) (fresh_two (fresh_is _) (fresh_is _)) (fun w u h => by obtain rfl : u = _ := h.now; exact hend w)
    · exact mO 1 18
    · exact e20 wA (oO 2 16)
    · exact e21 wA (oO 2 16)
    · exact mO 3 19
    · exact mO 4 20
  intro B3 a3 W3 (S3 : Sta w 46 [(2, (.box 26 zR))] [(5, iV (l.length : Nat)), (6, bT), (0, sV l)] _ _ _)
  refine wp_stmt_seq [kT, kF] [.inr 0] [.inl 1, .inr 0, .inr 2] follows S3 rfl (by kernel_rfl) ?_ ?_
  · refine ⟨⟨trivial, ?_⟩, ?_⟩
    · exact mS 1 6
    · exact b_not wA (oO 0 21)
  intro B4 a4 W4 (S4 : Sta w 46 [(2, (.box 26 zR))] [(22, bF), (5, iV (l.length : Nat)), (0, sV l)] _ _ _)
  refine wp_cond_false (S4.bool 0 22 rfl) ?_
  refine wp_skip ?_
  refine thenN ?_
  refine wp_stmt_seq [.val (sV l), .val ((THREE (IS (str (l.take e))) (IS (str (l.drop (e + 1)))) (IS (.bool true))) w.heap.size), .val ((THREE (IS (str (l.take e))) (IS (str (l.drop (e + 1)))) (IS (.bool true))) w.heap.size), .val (sV (l.take e)), .val (sV (l.drop (e + 1))), kT, .val (sV (l.take e)), .val (sV (l.drop (e + 1))), kT] [.inr 0] [.inl 6, .inl 7, .inl 8] follows S4 rfl (by kernel_rfl) ?_ ?_
  · repeat' refine And.intro ?_ ?_
    · trivial
    · exact mS 2 0
    · exact ch2 wA (qO 0 26 rfl) ((opnd_const _).imp (fun _ _ h => h)) (fresh_three (fresh_is _) (fresh_is _) (fresh_is _)) (fun w u v h1 h2 => by obtain rfl : u = _ := h1.now; obtain rfl : v = _ := h2.now; exact scut_at w l e hl he hi)
    · exact mO 1 27
    · exact e30 wA (oO 2 25)
    · exact e31 wA (oO 2 25)
    · exact e32 wA (oO 2 25)
    · exact mO 3 28
    · exact mO 4 29
    · exact mO 5 30
  intro B5 a5 W5 (S5 : Sta w 46 [(2, (.box 26 zR))] [(7, sV (l.take e)), (8, sV (l.drop (e + 1))), (9, bT)] _ _ _)
  refine wp_seq ?_
  refine wp_stmt_seq [kT, kF] [.inr 0] [.inl 1, .inr 0, .inr 1] follows S5 rfl (by kernel_rfl) ?_ ?_
  · refine ⟨⟨trivial, ?_⟩, ?_⟩
    · exact mS 2 9
    · exact b_not wA (oO 0 31)
  intro B6 a6 W6 (S6 : Sta w 46 [(2, (.box 26 zR))] [(32, bF), (7, sV (l.take e)), (8, sV (l.drop (e + 1)))] _ _ _)
  refine wp_cond_false (S6.bool 0 32 rfl) ?_
  refine wp_skip ?_
  refine thenN ?_
  refine wp_stmt_seq [.val (sV (l.take e)), .val (sV (tl (l.take e))), .val (sV (tl (l.take e)))] [.inr 0] [.inl 2, .inr 1, .inr 2] follows S6 rfl (by kernel_rfl) ?_ ?_
  · refine ⟨⟨⟨trivial, ?_⟩, ?_⟩, ?_⟩
    · exact mS 1 7
    · exact ch2 wA (qO 0 33 rfl) ((opnd_const _).imp (fun _ _ h => h)) (fresh_is _) (fun w u v h1 h2 => by obtain rfl : u = _ := h1.now; obtain rfl : v = _ := h2.now; exact trimp_w w (l.take e))
    · exact mO 1 34
  intro B7 a7 W7 (S7 : Sta w 46 [(2, (.box 26 zR))] [(10, sV (tl (l.take e))), (7, sV (l.take e)), (8, sV (l.drop (e + 1)))] _ _ _)
  refine wp_stmt_seq [.val (sV (tl (l.take e))), .val (sV (l.take e)), .val (Is (.bool (isN (l.take e)))), .val (sV (tl (l.take e))), .val ((NN (decV (tl (l.take e)))) w.heap.size), .val (Zv (sg (isN (l.take e)) (decV (tl (l.take e)))) 131072), .new (.box 24 zI), .put (.inr 6) (.box 24 (Zv (sg (isN (l.take e)) (decV (tl (l.take e)))) 131072))] [.inr 0, .inl 6] [.inr 2] follows S7 rfl (by kernel_rfl) ?_ ?_
  · repeat' refine And.intro ?_ ?_
    · trivial
    · exact mS 0 10
    · exact mS 1 7
    · exact owe_bin rfl wA rfl (oO 0 35) (oO 1 36) rfl (fun ρ w h1 h2 => by exact run_neN ρ _ _ _ w (l.take e) h1 h2)
    · exact mS 0 10
    · exact ch1 wA (qO 3 38 rfl) (fresh_nn _) (fun w u h => by obtain rfl : u = _ := h.now; exact num_w w _ (by exact htl) hdt)
    · exact owe_bint2 rfl wA rfl (oO 2 37) ((oO 4 39).imp (nn_nv hqa)) rfl
    · exact owe_new rfl wA rfl rfl (fun ρ w => alloc_int ρ _ w)
    · exact owe_put 6 rfl wA rfl (by kernel_rfl) rfl (oO 5 40) (stores_of strct_int shp_z0 shp_zv) rfl
  intro B8 a8 W8 (S8 : Sta w 46 [(2, (.box 26 zR)), (11, (.box 24 (Zv (sg (isN (l.take e)) (decV (tl (l.take e)))) 131072)))] [(8, sV (l.drop (e + 1)))] _ _ _)
  refine wp_stmt_seq [.val (Zv (sg (isN (l.take e)) (decV (tl (l.take e)))) 131072), .val (sV (l.drop (e + 1))), .val ((NN (decV (l.drop (e + 1)))) w.heap.size), .val (Zv (sg false (decV (l.drop (e + 1)))) 131072), .val ((RN (nR (sg (isN (l.take e)) (decV (tl (l.take e)))) (decV (l.drop (e + 1)))) (dR (sg (isN (l.take e)) (decV (tl (l.take e)))) (decV (l.drop (e + 1))))) w.heap.size), .put (.inl 2) (.box 26 ((RN (nR (sg (isN (l.take e)) (decV (tl (l.take e)))) (decV (l.drop (e + 1)))) (dR (sg (isN (l.take e)) (decV (tl (l.take e)))) (decV (l.drop (e + 1))))) w.heap.size)), .val (iV 0), .val (iV 0)] [.inr 0] [.inl 6, .inl 7] follows S8 rfl (by kernel_rfl) ?_ ?_
  · repeat' refine And.intro ?_ ?_
    · trivial
    · exact lod 1 wA (loads_of strct_int shp_zv)
    · exact mS 0 8
    · exact ch1 wA (qO 1 42 rfl) (fresh_nn _) (fun w u h => by obtain rfl : u = _ := h.now; exact num_w w _ (by simp; omega) hdd)
    · exact owe_bint1 rfl wA rfl ((oO 2 43).imp (nn_nv hqd)) rfl
    · exact cc2 wA (qO 0 41 rfl) (qO 3 44 rfl) (fresh_rn _ _) (fun w u v h1 h2 => g_lowest (A := sg (isN (l.take e)) (decV (tl (l.take e)))) (D := decV (l.drop (e + 1))) hD (by omega) (by omega) w u v h1 h2)
    · exact owe_set rfl wA rfl (k := 0) rfl (by kernel_rfl) (oO 4 45) (stores_of strct_rat shp_r0 (shp_pr shp_zn shp_zn)) rfl
    · exact mC
    · exact mC
  intro B9 a9 W9 (S9 : Sta w 46 [(2, (.box 26 ((RN (nR (sg (isN (l.take e)) (decV (tl (l.take e)))) (decV (l.drop (e + 1)))) (dR (sg (isN (l.take e)) (decV (tl (l.take e)))) (decV (l.drop (e + 1))))) w.heap.size)))] [(3, iV 0), (4, iV 0)] _ _ _)
  refine wp_ret ?_
  exact end_three S9 rfl (res_cell S9 0 2 rfl strct_rat (shp_pr shp_zn shp_zn)) (res_tmp S9 0 3 rfl) (res_tmp S9 1 4 rfl)


/-- A rational, or none. -/
def RQ (N : Int) (D : Nat) : Nat → Pr := if D = 0 then IS (.agg #[.bool false, .slice none 0 0, .bool false, .slice none 0 0]) else RN N D
theorem fresh_rq (N : Int) (D : Nat) : Fresh (RQ N D) := by unfold RQ; split; exact fresh_is _; exact fresh_rn _ _
theorem rq0 : RQ 0 0 = IS (.agg #[.bool false, .slice none 0 0, .bool false, .slice none 0 0]) := if_pos rfl
theorem rq1 {N : Int} {D : Nat} (h : D ≠ 0) : RQ N D = RN N D := if_neg h
theorem h_rread {l : List UInt8} {N : Int} {D A : Nat} {E : Int} (h : RqIs l N D A E) : ∀ w u, Is (str l) u w → Calls Tryz.prog 8 #[u] w (Gives (THREE (RQ N D) (IS (.int .i64 (A : Nat))) (IS (.int .i64 E))) w) := by
  rintro w u rfl
  cases h with
  | long h => rw [rq0]; exact rrd_long w l h
  | no f hl hf h =>
    rw [rq0]
    rcases hf with ⟨hN, rfl⟩ | ⟨hN, rfl⟩
    · exact rrd_bad w l _ hl (fun w => end_no_n w l hl hN h)
    · exact rrd_bad w l _ hl (fun w => end_no_p w l hl hN h)
  | whole f hl hf h h1 =>
    have hi : Lib.indexByte l 47 = -1 := idx_no (fun k hk => no47 hf h hk)
    have hdt : ∀ j, j < (tl l).length → dgB (bt (tl l) j) = true := fun j hj => by
      rw [tl_fr hf] at hj ⊢
      rw [bt_drop]
      exact (ne_le h).2.2 (f + j) (by omega) (by simp at hj; omega)
    rw [rq1 (by decide), ← tl_fr hf]
    have key : ∀ w, Calls Tryz.prog 23 #[str l] w (Gives (TWO (IS (.int .i64 (l.length : Nat))) (IS (.bool true))) w) := fun w => by
      rcases hf with ⟨hN, rfl⟩ | ⟨hN, rfl⟩
      · exact end_whole_n w l hl hN h h1
      · exact end_whole_p w l hl hN h h1
    have := rrd_whole w l hl hi hdt key
    rw [nR_one, dR_one] at this
    exact this
  | tail f _ hl hf h h1 h2 h3 =>
    rw [rq0]
    rcases hf with ⟨hN, rfl⟩ | ⟨hN, rfl⟩
    · exact rrd_bad w l _ hl (fun w => end_tail_n w l hl hN _ h h1 h2 h3)
    · exact rrd_bad w l _ hl (fun w => end_tail_p w l hl hN _ h h1 h2 h3)
  | noden f e hl hf h h1 h2 h3 hd =>
    rw [rq0]
    rcases hf with ⟨hN, rfl⟩ | ⟨hN, rfl⟩
    · exact rrd_bad w l _ hl (fun w => end_noden_n w l hl hN e h h1 h2 h3 hd)
    · exact rrd_bad w l _ hl (fun w => end_noden_p w l hl hN e h h1 h2 h3 hd)
  | dtail f e _ hl hf h h1 h2 h3 hd h4 h5 =>
    rw [rq0]
    rcases hf with ⟨hN, rfl⟩ | ⟨hN, rfl⟩
    · exact rrd_bad w l _ hl (fun w => end_dtail_n w l hl hN e h h1 h2 h3 _ hd h4 h5)
    · exact rrd_bad w l _ hl (fun w => end_dtail_p w l hl hN e h h1 h2 h3 _ hd h4 h5)
  | frac f e hl hf h h1 h2 h3 hd h4 =>
    have he0 : 0 < e := by omega
    have hi : Lib.indexByte l 47 = (e : Nat) := idx_is (bt_at h2 h3) (fun k hk => no47 hf h hk)
    have hD := den_pos hd h4 rfl
    have htl : tl (l.take e) = (l.drop f).take (e - f) := by rw [tl_fr (fr_take hf he0), drop_take']
    have hdt : ∀ j, j < (tl (l.take e)).length → dgB (bt (tl (l.take e)) j) = true := by
      rw [htl]
      exact dig_seg (ne_le h).2.2 (by omega)
    have hdd : ∀ j, j < (l.drop (e + 1)).length → dgB (bt (l.drop (e + 1)) j) = true := fun j hj => by
      rw [bt_drop]
      exact (ne_le hd).2.2 _ (by omega) (by simp at hj; omega)
    have key : ∀ w, Calls Tryz.prog 23 #[str l] w (Gives (TWO (IS (.int .i64 (l.length : Nat))) (IS (.bool true))) w) := fun w => by
      rcases hf with ⟨hN, rfl⟩ | ⟨hN, rfl⟩
      · exact end_frac_n w l hl hN e h h1 h2 h3 hd h4
      · exact end_frac_p w l hl hN e h h1 h2 h3 hd h4
    have := rrd_frac w l e hl h2 hi hdt hdd hD key
    rw [isN_take he0, htl] at this
    rw [rq1 (dR_ne hD)]
    exact this

end Go.Proofs.YtaplbadcpbollaaGreatDoor
