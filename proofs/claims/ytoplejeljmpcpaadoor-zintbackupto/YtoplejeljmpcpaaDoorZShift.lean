/-
  zint.Shift, beside the roots and the top bits.
-/
import Derived.Test.YtoplejeljmpcpaaDoorZTop
import Derived.Test.YtoplejeljmpcpaaDoorZQuot
namespace Go.Proofs.YtoplejeljmpcpaaDoor
open Go Go.RowKit Nt
set_option linter.unusedSimpArgs false
set_option linter.unusedVariables false
set_option maxRecDepth 20000

set_option maxHeartbeats 400000 in
theorem up_w0 (w : World) (p : Option Addr) (n c : Nat) (xs : List Nat) (z : Int) (h : Sl w p n c xs) (hn : n ≤ 1048576) (hz : 0 ≤ z) (hz2 : z ≤ 65536) (P M K R : Nat) (hR : z % 32 = R) (hP : 2 ^ R = P) (hP2 : P < 4294967296) (hM : P * val xs = M) (hK : z / 32 = K) (hm : (((digs M).length : Nat) : Int) = 0) :
    Calls Tryd.prog 43 #[.slice p n c, .int .i64 z] w (Gives (IS (.slice none 0 0)) w) := by
  refine calls_sta (sl := [(0, (Nx p n c xs)), (1, (Is (.int .i64 z)))]) Tryd.func43 rfl Tryd.ntmps43 (by simp) (args_cons rfl (nx_has h) (args_cons rfl (is_has _) args_nil)) ?_
  intro a0 S0
  refine wp_stmt_seq [.val (Is (.slice none 0 0))] [] [.inl 0, .inr 0, .inr 1] follows S0 rfl (by kernel_rfl) ?_ ?_
  · refine ⟨trivial, ?_⟩
    · exact owe_move rfl (wants_all rfl) (Or.inr rfl) (opnd_const _) rfl
  intro B1 a1 W1 S1
  replace S1 : Sta w 29 [] [(4, (Is (.slice none 0 0))), (0, (Nx p n c xs)), (1, (Is (.int .i64 z)))] B1 a1 W1 := S1
  refine wp_stmt_seq [.val (Is (.int .i64 z)),
      .val (Is (.int .i64 R)),
      .val (Is (.int .u32 P)),
      .val ((BS P) w.heap.size),
      .val (Nx p n c xs),
      .val ((NN (M)) w.heap.size),
      .val ((NN (M)) w.heap.size)] [] [.inl 6, .inr 0, .inr 2] follows S1 rfl (by kernel_rfl) ?_ ?_
  · refine ⟨⟨⟨⟨⟨⟨⟨trivial, ?_⟩, ?_⟩, ?_⟩, ?_⟩, ?_⟩, ?_⟩, ?_⟩
    · exact owe_move rfl (wants_all rfl) (Or.inl rfl) (opnd_slot 2 1 rfl (by kernel_rfl)) rfl
    · exact owe_bin rfl (wants_all rfl) rfl (opnd_op 0 7 (by kernel_rfl) rfl) (opnd_const _) rfl (fun ρ w h1 h2 => by exact run_rem_int ρ _ _ _ w _ _ _ ⟨hR, hz, by omega, by omega⟩ h1 h2)
    · exact owe_bin rfl (wants_all rfl) rfl (opnd_const _) (opnd_op 1 8 (by kernel_rfl) rfl) rfl (fun ρ w h1 h2 => by exact run_shl1 ρ _ _ _ w R P (by omega) hP h1 h2)
    · exact owe_bs rfl (wants_all rfl) rfl (opnd_op 2 9 (by kernel_rfl) rfl) hP2 rfl
    · exact owe_move rfl (wants_all rfl) (Or.inl rfl) (opnd_slot 1 0 rfl (by kernel_rfl)) rfl
    · exact owe_call2 rfl (wants_all rfl) rfl (opnd_op 3 10 (by kernel_rfl) rfl) (opnd_op 4 11 (by kernel_rfl) rfl) (fresh_nn _) rfl (fun args w => by go_simp) (fun w u0 u1 h0 h1 => Gives.cast ((fun w u v h1 h2 => g_mul (by omega) w u v (bs_nv _ _ h1) ((nx_nv (Nat.le_refl _)) _ _ h2)) w u0 u1 h0 h1) (by rw [hM]))
    · exact owe_move rfl (wants_all rfl) (Or.inr rfl) (opnd_op 5 12 (by kernel_rfl) rfl) rfl
  intro B2 a2 W2 S2
  replace S2 : Sta w 29 [] [(5, ((NN (M)) w.heap.size)), (4, (Is (.slice none 0 0))), (1, (Is (.int .i64 z)))] B2 a2 W2 := S2
  refine wp_seq ?_
  refine wp_stmt_seq [.val ((NN (M)) w.heap.size),
      .val (Is (.int .i64 ((digs (M)).length : Nat))),
      .val (Is (.bool true))] [] [.inl 2, .inr 0, .inr 1, .inr 2] follows S2 rfl (by kernel_rfl) ?_ ?_
  · refine ⟨⟨⟨trivial, ?_⟩, ?_⟩, ?_⟩
    · exact owe_move rfl (wants_all rfl) (Or.inl rfl) (opnd_slot 0 5 rfl (by kernel_rfl)) rfl
    · exact owe_len rfl (wants_all rfl) rfl (opnd_op 0 13 (by kernel_rfl) rfl) nn_len Tryd.underlying22 rfl
    · exact owe_bin rfl (wants_all rfl) rfl (opnd_op 1 14 (by kernel_rfl) rfl) (opnd_const _) rfl (fun ρ w h1 h2 => by exact run_eql_int_t ρ _ _ _ w _ _ hm h1 h2)
  intro B3 a3 W3 S3
  replace S3 : Sta w 29 [] [(15, (Is (.bool true))), (5, ((NN (M)) w.heap.size)), (4, (Is (.slice none 0 0))), (1, (Is (.int .i64 z)))] B3 a3 W3 := S3
  refine wp_cond_true (S3.bool 0 15 rfl) ?_
  refine wp_stmt_seq [.val (Is (.slice none 0 0))] [] [.inl 0, .inr 0, .inr 1, .inr 3] follows S3 rfl (by kernel_rfl) ?_ ?_
  · refine ⟨trivial, ?_⟩
    · exact owe_move rfl (wants_all rfl) (Or.inr rfl) (opnd_const _) rfl
  intro B4 a4 W4 S4
  replace S4 : Sta w 29 [] [(4, (Is (.slice none 0 0))), (15, (Is (.bool true))), (5, ((NN (M)) w.heap.size)), (1, (Is (.int .i64 z)))] B4 a4 W4 := S4
  refine wp_ret ?_
  refine thenR ?_
  exact end_one S4 rfl (res_tmp S4 0 4 rfl)

set_option maxHeartbeats 400000 in
theorem up_w1 (w : World) (p : Option Addr) (n c : Nat) (xs : List Nat) (z : Int) (h : Sl w p n c xs) (hn : n ≤ 1048576) (hz : 0 ≤ z) (hz2 : z ≤ 65536) (P M K R : Nat) (hR : z % 32 = R) (hP : 2 ^ R = P) (hP2 : P < 4294967296) (hM : P * val xs = M) (hK : z / 32 = K) (hm : (((digs M).length : Nat) : Int) ≠ 0) (hl : (digs M).length ≤ 1 + n) :
    Calls Tryd.prog 43 #[.slice p n c, .int .i64 z] w (Gives (NR ((List.replicate (K + (digs M).length) 0).take K ++ digs M ++ (List.replicate (K + (digs M).length) 0).drop (K + (digs M).length))) w) := by
  refine calls_sta (sl := [(0, (Nx p n c xs)), (1, (Is (.int .i64 z)))]) Tryd.func43 rfl Tryd.ntmps43 (by simp) (args_cons rfl (nx_has h) (args_cons rfl (is_has _) args_nil)) ?_
  intro a0 S0
  refine wp_stmt_seq [.val (Is (.slice none 0 0))] [] [.inl 0, .inr 0, .inr 1] follows S0 rfl (by kernel_rfl) ?_ ?_
  · refine ⟨trivial, ?_⟩
    · exact owe_move rfl (wants_all rfl) (Or.inr rfl) (opnd_const _) rfl
  intro B1 a1 W1 S1
  replace S1 : Sta w 29 [] [(4, (Is (.slice none 0 0))), (0, (Nx p n c xs)), (1, (Is (.int .i64 z)))] B1 a1 W1 := S1
  refine wp_stmt_seq [.val (Is (.int .i64 z)),
      .val (Is (.int .i64 R)),
      .val (Is (.int .u32 P)),
      .val ((BS P) w.heap.size),
      .val (Nx p n c xs),
      .val ((NN (M)) w.heap.size),
      .val ((NN (M)) w.heap.size)] [] [.inl 6, .inr 0, .inr 2] follows S1 rfl (by kernel_rfl) ?_ ?_
  · refine ⟨⟨⟨⟨⟨⟨⟨trivial, ?_⟩, ?_⟩, ?_⟩, ?_⟩, ?_⟩, ?_⟩, ?_⟩
    · exact owe_move rfl (wants_all rfl) (Or.inl rfl) (opnd_slot 2 1 rfl (by kernel_rfl)) rfl
    · exact owe_bin rfl (wants_all rfl) rfl (opnd_op 0 7 (by kernel_rfl) rfl) (opnd_const _) rfl (fun ρ w h1 h2 => by exact run_rem_int ρ _ _ _ w _ _ _ ⟨hR, hz, by omega, by omega⟩ h1 h2)
    · exact owe_bin rfl (wants_all rfl) rfl (opnd_const _) (opnd_op 1 8 (by kernel_rfl) rfl) rfl (fun ρ w h1 h2 => by exact run_shl1 ρ _ _ _ w R P (by omega) hP h1 h2)
    · exact owe_bs rfl (wants_all rfl) rfl (opnd_op 2 9 (by kernel_rfl) rfl) hP2 rfl
    · exact owe_move rfl (wants_all rfl) (Or.inl rfl) (opnd_slot 1 0 rfl (by kernel_rfl)) rfl
    · exact owe_call2 rfl (wants_all rfl) rfl (opnd_op 3 10 (by kernel_rfl) rfl) (opnd_op 4 11 (by kernel_rfl) rfl) (fresh_nn _) rfl (fun args w => by go_simp) (fun w u0 u1 h0 h1 => Gives.cast ((fun w u v h1 h2 => g_mul (by omega) w u v (bs_nv _ _ h1) ((nx_nv (Nat.le_refl _)) _ _ h2)) w u0 u1 h0 h1) (by rw [hM]))
    · exact owe_move rfl (wants_all rfl) (Or.inr rfl) (opnd_op 5 12 (by kernel_rfl) rfl) rfl
  intro B2 a2 W2 S2
  replace S2 : Sta w 29 [] [(5, ((NN (M)) w.heap.size)), (4, (Is (.slice none 0 0))), (1, (Is (.int .i64 z)))] B2 a2 W2 := S2
  refine wp_seq ?_
  refine wp_stmt_seq [.val ((NN (M)) w.heap.size),
      .val (Is (.int .i64 ((digs (M)).length : Nat))),
      .val (Is (.bool false))] [] [.inl 2, .inr 0, .inr 1, .inr 2] follows S2 rfl (by kernel_rfl) ?_ ?_
  · refine ⟨⟨⟨trivial, ?_⟩, ?_⟩, ?_⟩
    · exact owe_move rfl (wants_all rfl) (Or.inl rfl) (opnd_slot 0 5 rfl (by kernel_rfl)) rfl
    · exact owe_len rfl (wants_all rfl) rfl (opnd_op 0 13 (by kernel_rfl) rfl) nn_len Tryd.underlying22 rfl
    · exact owe_bin rfl (wants_all rfl) rfl (opnd_op 1 14 (by kernel_rfl) rfl) (opnd_const _) rfl (fun ρ w h1 h2 => by exact run_eql_int_f ρ _ _ _ w _ _ hm h1 h2)
  intro B3 a3 W3 S3
  replace S3 : Sta w 29 [] [(15, (Is (.bool false))), (5, ((NN (M)) w.heap.size)), (4, (Is (.slice none 0 0))), (1, (Is (.int .i64 z)))] B3 a3 W3 := S3
  refine wp_cond_false (S3.bool 0 15 rfl) ?_
  refine wp_skip ?_
  refine thenN ?_
  refine wp_stmt_seq [.val (Is (.int .i64 z)),
      .val (Is (.int .i64 K)),
      .val ((NN (M)) w.heap.size),
      .val (Is (.int .i64 ((digs (M)).length : Nat))),
      .val (Is (.int .i64 (K + (digs M).length : Nat))),
      .new (.row 46 1 (K + (digs M).length) (EqL (U (List.replicate (K + (digs M).length) 0)))),
      .ref 5] [.inl 6] [.inr 0, .inr 1, .inr 2, .inr 3] follows S3 rfl (by kernel_rfl) ?_ ?_
  · refine ⟨⟨⟨⟨⟨⟨⟨trivial, ?_⟩, ?_⟩, ?_⟩, ?_⟩, ?_⟩, ?_⟩, ?_⟩
    · exact owe_move rfl (wants_all rfl) (Or.inl rfl) (opnd_slot 3 1 rfl (by kernel_rfl)) rfl
    · exact owe_bin rfl (wants_all rfl) rfl (opnd_op 0 16 (by kernel_rfl) rfl) (opnd_const _) rfl (fun ρ w h1 h2 => by exact run_quo_int ρ _ _ _ w _ _ _ ⟨hK, hz, by omega, by omega⟩ h1 h2)
    · exact owe_move rfl (wants_all rfl) (Or.inl rfl) (opnd_slot 1 5 rfl (by kernel_rfl)) rfl
    · exact owe_len rfl (wants_all rfl) rfl (opnd_op 2 18 (by kernel_rfl) rfl) nn_len Tryd.underlying22 rfl
    · exact owe_bin rfl (wants_all rfl) rfl (opnd_op 1 17 (by kernel_rfl) rfl) (opnd_op 3 19 (by kernel_rfl) rfl) rfl (fun ρ w h1 h2 => by exact run_add_int ρ _ _ _ w _ _ _ ⟨by omega, by omega, by omega⟩ h1 h2)
    · exact owe_make rfl (wants_all rfl) rfl (opnd_op 4 20 (by kernel_rfl) rfl) (by omega) rfl
    · exact owe_ref 5 rfl (wants_all rfl) (Or.inr rfl) (by kernel_rfl) rfl rfl
  intro B4 a4 W4 S4
  replace S4 : Sta w 29 [(6, (.row 46 1 (K + (digs M).length) (EqL (U (List.replicate (K + (digs M).length) 0)))))] [(15, (Is (.bool false))), (5, ((NN (M)) w.heap.size)), (4, (Is (.slice none 0 0))), (1, (Is (.int .i64 z)))] B4 a4 W4 := S4
  refine wp_stmt_seq [.val (Is (a4.eval (.tmp 6))),
      .val (Is (.int .i64 z)),
      .val (Is (.int .i64 K)),
      .val (Tail a4 6 (K + (digs M).length) K),
      .val ((NN (M)) w.heap.size),
      .put (.inl 6) (.row 46 1 (K + (digs M).length) (EqL (U ((List.replicate (K + (digs M).length) 0).take K ++ digs M ++ (List.replicate (K + (digs M).length) 0).drop (K + (digs M).length)))))] [.inr 0] [.inr 0, .inr 1, .inr 2, .inr 3] follows S4 rfl (by kernel_rfl) ?_ ?_
  · refine ⟨⟨⟨⟨⟨⟨trivial, ?_⟩, ?_⟩, ?_⟩, ?_⟩, ?_⟩, ?_⟩
    · exact owe_same rfl (wants_all rfl) (Or.inl rfl) (by kernel_rfl) rfl
    · exact owe_move rfl (wants_all rfl) (Or.inl rfl) (opnd_slot 3 1 rfl (by kernel_rfl)) rfl
    · exact owe_bin rfl (wants_all rfl) rfl (opnd_op 1 23 (by kernel_rfl) rfl) (opnd_const _) rfl (fun ρ w h1 h2 => by exact run_quo_int ρ _ _ _ w _ _ _ ⟨hK, hz, by omega, by omega⟩ h1 h2)
    · exact owe_tail rfl (wants_all rfl) rfl (opnd_op 0 22 (by kernel_rfl) rfl) (k := 0) rfl (by kernel_rfl) (opnd_op 2 24 (by kernel_rfl) rfl) (by omega) rfl
    · exact owe_move rfl (wants_all rfl) (Or.inl rfl) (opnd_slot 1 5 rfl (by kernel_rfl)) rfl
    · exact owe_copy (kk := 0) rfl (wants_all rfl) rfl (opnd_op 3 25 (by kernel_rfl) rfl) (k := 0) rfl (by kernel_rfl) (opnd_op 4 26 (by kernel_rfl) rfl) (fun v w ⟨r, c, e, h, _⟩ => ⟨r, c, e, h⟩) (by omega) (by omega) rfl
  intro B5 a5 W5 S5
  replace S5 : Sta w 29 [(6, (.row 46 1 (K + (digs M).length) (EqL (U ((List.replicate (K + (digs M).length) 0).take K ++ digs M ++ (List.replicate (K + (digs M).length) 0).drop (K + (digs M).length))))))] [(15, (Is (.bool false))), (5, ((NN (M)) w.heap.size)), (4, (Is (.slice none 0 0))), (1, (Is (.int .i64 z)))] B5 a5 W5 := S5
  obtain ⟨B6, S6⟩ : ∃ Bq, Sta w 29 [] [(6, ((NR ((List.replicate (K + (digs M).length) 0).take K ++ digs M ++ (List.replicate (K + (digs M).length) 0).drop (K + (digs M).length))) w.heap.size)), (15, (Is (.bool false))), (5, ((NN (M)) w.heap.size)), (4, (Is (.slice none 0 0))), (1, (Is (.int .i64 z)))] Bq a5 W5 := ⟨_, S5.freeze 0 rfl (by simp) (row_nr up_ok)⟩
  obtain ⟨a6, W6, e1, e2⟩ : ∃ a W, a5 = a ∧ W5 = W := ⟨_, _, rfl, rfl⟩
  rw [e1, e2] at S6 ⊢
  clear e1 e2
  refine wp_stmt_seq [.val ((NR ((List.replicate (K + (digs M).length) 0).take K ++ digs M ++ (List.replicate (K + (digs M).length) 0).drop (K + (digs M).length))) w.heap.size),
      .val ((NR ((List.replicate (K + (digs M).length) 0).take K ++ digs M ++ (List.replicate (K + (digs M).length) 0).drop (K + (digs M).length))) w.heap.size)] [] [.inl 1, .inr 0, .inr 1, .inr 2, .inr 4] follows S6 rfl (by kernel_rfl) ?_ ?_
  · refine ⟨⟨trivial, ?_⟩, ?_⟩
    · exact owe_move rfl (wants_all rfl) (Or.inl rfl) (opnd_slot 0 6 rfl (by kernel_rfl)) rfl
    · exact owe_move rfl (wants_all rfl) (Or.inr rfl) (opnd_op 0 28 (by kernel_rfl) rfl) rfl
  intro B7 a7 W7 S7
  replace S7 : Sta w 29 [] [(4, ((NR ((List.replicate (K + (digs M).length) 0).take K ++ digs M ++ (List.replicate (K + (digs M).length) 0).drop (K + (digs M).length))) w.heap.size)), (6, ((NR ((List.replicate (K + (digs M).length) 0).take K ++ digs M ++ (List.replicate (K + (digs M).length) 0).drop (K + (digs M).length))) w.heap.size)), (15, (Is (.bool false))), (5, ((NN (M)) w.heap.size)), (1, (Is (.int .i64 z)))] B7 a7 W7 := S7
  refine wp_ret ?_
  exact end_one S7 rfl (res_tmp S7 0 4 rfl)

theorem g_up {x k : Nat} {z : Int} (hk : k ≤ 1048576) (hz : 0 ≤ z) (hz2 : z ≤ 65536) : ∀ w u v, Nv x k u w → Is (.int .i64 z) v w → Calls Tryd.prog 43 #[u, v] w (Gives (NN (x * 2 ^ z.toNat)) w) := by
  rintro w u v ⟨p, n, c, xs, rfl, h, rfl, hn⟩ e
  obtain rfl : v = _ := e
  obtain ⟨Z, rfl⟩ : ∃ Z : Nat, z = (Z : Int) := ⟨z.toNat, by omega⟩
  rw [Int.toNat_natCast]
  have hr : Z % 32 < 32 := Nat.mod_lt _ (by decide)
  have hP : 2 ^ (Z % 32) < 4294967296 := Nat.lt_of_lt_of_le (Nat.pow_lt_pow_right (by omega) hr) (by decide)
  have hx : val xs * 2 ^ Z = 2 ^ (Z % 32) * val xs * 2 ^ (32 * (Z / 32)) := by
    rw [Nat.mul_comm (2 ^ (Z % 32)), Nat.mul_assoc, ← Nat.pow_add]
    congr 2
    omega
  by_cases hm : 2 ^ (Z % 32) * val xs = 0
  · have := up_w0 w p n c xs Z h (by omega) hz hz2 _ _ (Z / 32) (Z % 32) (by omega) rfl hP rfl (by omega) (by rw [hm]; rfl)
    rw [hx, hm, Nat.zero_mul]
    refine this.mono ?_
    rintro e w' ⟨v, rfl, hb, h⟩
    exact ⟨v, rfl, hb, zero_nn _ _ h⟩
  · have hl : (digs (2 ^ (Z % 32) * val xs)).length ≠ 0 := fun e => hm ((digs_length_zero _).1 e)
    have := up_w1 w p n c xs Z h (by omega) hz hz2 _ _ (Z / 32) (Z % 32) (by omega) rfl hP rfl (by omega) (by omega) (digs_mul_len (digs_length_le (by omega)) h.dl)
    rw [up_list, up_digs hm, ← hx] at this
    exact this

set_option maxHeartbeats 400000 in
theorem dab_w (w : World) (p : Option Addr) (n c : Nat) (xs : List Nat) (z : Int) (h : Sl w p n c xs) (hn : n ≤ 1048576) (hz : 0 ≤ z) (hz2 : z ≤ 9223372036854775807) (hle : 1 ≤ val xs) :
    Calls Tryd.prog 44 #[.slice p n c, .int .i64 z] w (Gives (NN ((val xs - 1) / 2 ^ z.toNat + 1)) w) := by
  have dm : (digs (val xs - 1)).length ≤ n := Nat.le_trans (digs_length_mono (by omega)) h.dl
  have dq : (digs ((val xs - 1) / 2 ^ z.toNat)).length ≤ n := Nat.le_trans (digs_length_mono (Nat.div_le_self _ _)) dm
  refine calls_sta (sl := [(0, (Nx p n c xs)), (1, (Is (.int .i64 z)))]) Tryd.func44 rfl Tryd.ntmps44 (by simp) (args_cons rfl (nx_has h) (args_cons rfl (is_has _) args_nil)) ?_
  intro a0 S0
  refine wp_stmt_seq [.val (Is (.slice none 0 0))] [] [.inl 0, .inr 0, .inr 1] follows S0 rfl (by kernel_rfl) ?_ ?_
  · refine ⟨trivial, ?_⟩
    · exact owe_move rfl (wants_all rfl) (Or.inr rfl) (opnd_const _) rfl
  intro B1 a1 W1 S1
  replace S1 : Sta w 26 [] [(4, (Is (.slice none 0 0))), (0, (Nx p n c xs)), (1, (Is (.int .i64 z)))] B1 a1 W1 := S1
  refine wp_stmt_seq [.val ((BS 1) w.heap.size),
      .val ((BS 1) w.heap.size)] [] [.inl 1, .inr 0, .inr 1, .inr 2] follows S1 rfl (by kernel_rfl) ?_ ?_
  · refine ⟨⟨trivial, ?_⟩, ?_⟩
    · exact owe_bs rfl (wants_all rfl) rfl (opnd_const _) (by decide) rfl
    · exact owe_move rfl (wants_all rfl) (Or.inr rfl) (opnd_op 0 10 (by kernel_rfl) rfl) rfl
  intro B2 a2 W2 S2
  replace S2 : Sta w 26 [] [(5, ((BS 1) w.heap.size)), (4, (Is (.slice none 0 0))), (0, (Nx p n c xs)), (1, (Is (.int .i64 z)))] B2 a2 W2 := S2
  refine wp_stmt_seq [.val (Nx p n c xs),
      .val ((BS 1) w.heap.size),
      .val ((TWO (NN (val xs - 1)) (IS (.int .i64 0))) w.heap.size),
      .val ((TWO (NN (val xs - 1)) (IS (.int .i64 0))) w.heap.size),
      .val ((NN (val xs - 1)) w.heap.size),
      .val (Is (.int .i64 0)),
      .val ((NN (val xs - 1)) w.heap.size),
      .val (Is (.int .i64 0))] [] [.inl 6, .inr 0, .inr 1, .inr 3] follows S2 rfl (by kernel_rfl) ?_ ?_
  · refine ⟨⟨⟨⟨⟨⟨⟨⟨trivial, ?_⟩, ?_⟩, ?_⟩, ?_⟩, ?_⟩, ?_⟩, ?_⟩, ?_⟩
    · exact owe_move rfl (wants_all rfl) (Or.inl rfl) (opnd_slot 2 0 rfl (by kernel_rfl)) rfl
    · exact owe_move rfl (wants_all rfl) (Or.inl rfl) (opnd_slot 0 5 rfl (by kernel_rfl)) rfl
    · exact owe_call2 rfl (wants_all rfl) rfl (opnd_op 0 12 (by kernel_rfl) rfl) (opnd_op 1 13 (by kernel_rfl) rfl) (fresh_two (fresh_nn _) (fresh_is _)) rfl (fun args w => by go_simp) (fun w u v h1 h2 => g_sub (by omega) hle w u v ((nx_nv (Nat.le_refl _)) _ _ h1) (bs_nv _ _ h2))
    · exact owe_move rfl (wants_all rfl) (Or.inl rfl) (opnd_op 2 14 (by kernel_rfl) rfl) rfl
    · exact owe_ext2 rfl (wants_all rfl) rfl (opnd_op 3 11 (by kernel_rfl) rfl) (Or.inl ⟨rfl, rfl⟩) rfl
    · exact owe_ext2 rfl (wants_all rfl) rfl (opnd_op 3 11 (by kernel_rfl) rfl) (Or.inr ⟨rfl, rfl⟩) rfl
    · exact owe_move rfl (wants_all rfl) (Or.inr rfl) (opnd_op 4 15 (by kernel_rfl) rfl) rfl
    · exact owe_move rfl (wants_all rfl) (Or.inr rfl) (opnd_op 5 16 (by kernel_rfl) rfl) rfl
  intro B3 a3 W3 S3
  replace S3 : Sta w 26 [] [(6, ((NN (val xs - 1)) w.heap.size)), (5, ((BS 1) w.heap.size)), (4, (Is (.slice none 0 0))), (1, (Is (.int .i64 z)))] B3 a3 W3 := S3
  refine wp_stmt_seq [.val ((NN (val xs - 1)) w.heap.size),
      .val (Is (.int .i64 z)),
      .val ((TWO (NN ((val xs - 1) / 2 ^ z.toNat)) (IS (.int .i64 0))) w.heap.size),
      .val ((TWO (NN ((val xs - 1) / 2 ^ z.toNat)) (IS (.int .i64 0))) w.heap.size),
      .val ((NN ((val xs - 1) / 2 ^ z.toNat)) w.heap.size),
      .val (Is (.int .i64 0)),
      .val ((NN ((val xs - 1) / 2 ^ z.toNat)) w.heap.size),
      .val (Is (.int .i64 0))] [] [.inl 6, .inr 1, .inr 2] follows S3 rfl (by kernel_rfl) ?_ ?_
  · refine ⟨⟨⟨⟨⟨⟨⟨⟨trivial, ?_⟩, ?_⟩, ?_⟩, ?_⟩, ?_⟩, ?_⟩, ?_⟩, ?_⟩
    · exact owe_move rfl (wants_all rfl) (Or.inl rfl) (opnd_slot 0 6 rfl (by kernel_rfl)) rfl
    · exact owe_move rfl (wants_all rfl) (Or.inl rfl) (opnd_slot 3 1 rfl (by kernel_rfl)) rfl
    · exact owe_call2 rfl (wants_all rfl) rfl (opnd_op 0 18 (by kernel_rfl) rfl) (opnd_op 1 19 (by kernel_rfl) rfl) (fresh_two (fresh_nn _) (fresh_is _)) rfl (fun args w => by go_simp) (fun w u v h1 h2 => g_shr (by omega) hz hz2 w u v ((nn_nv dm) _ _ h1) h2)
    · exact owe_move rfl (wants_all rfl) (Or.inl rfl) (opnd_op 2 20 (by kernel_rfl) rfl) rfl
    · exact owe_ext2 rfl (wants_all rfl) rfl (opnd_op 3 17 (by kernel_rfl) rfl) (Or.inl ⟨rfl, rfl⟩) rfl
    · exact owe_ext2 rfl (wants_all rfl) rfl (opnd_op 3 17 (by kernel_rfl) rfl) (Or.inr ⟨rfl, rfl⟩) rfl
    · exact owe_move rfl (wants_all rfl) (Or.inr rfl) (opnd_op 4 21 (by kernel_rfl) rfl) rfl
    · exact owe_move rfl (wants_all rfl) (Or.inr rfl) (opnd_op 5 22 (by kernel_rfl) rfl) rfl
  intro B4 a4 W4 S4
  replace S4 : Sta w 26 [] [(8, ((NN ((val xs - 1) / 2 ^ z.toNat)) w.heap.size)), (5, ((BS 1) w.heap.size)), (4, (Is (.slice none 0 0)))] B4 a4 W4 := S4
  refine wp_stmt_seq [.val ((NN ((val xs - 1) / 2 ^ z.toNat)) w.heap.size),
      .val ((BS 1) w.heap.size),
      .val ((NN (((val xs - 1) / 2 ^ z.toNat) + 1)) w.heap.size),
      .val ((NN (((val xs - 1) / 2 ^ z.toNat) + 1)) w.heap.size)] [] [.inl 3, .inr 1] follows S4 rfl (by kernel_rfl) ?_ ?_
  · refine ⟨⟨⟨⟨trivial, ?_⟩, ?_⟩, ?_⟩, ?_⟩
    · exact owe_move rfl (wants_all rfl) (Or.inl rfl) (opnd_slot 0 8 rfl (by kernel_rfl)) rfl
    · exact owe_move rfl (wants_all rfl) (Or.inl rfl) (opnd_slot 1 5 rfl (by kernel_rfl)) rfl
    · exact owe_call2 rfl (wants_all rfl) rfl (opnd_op 0 23 (by kernel_rfl) rfl) (opnd_op 1 24 (by kernel_rfl) rfl) (fresh_nn _) rfl (fun args w => by go_simp) (fun w u v h1 h2 => g_add (by omega) (by omega) w u v ((nn_nv dq) _ _ h1) (bs_nv _ _ h2))
    · exact owe_move rfl (wants_all rfl) (Or.inr rfl) (opnd_op 2 25 (by kernel_rfl) rfl) rfl
  intro B5 a5 W5 S5
  replace S5 : Sta w 26 [] [(4, ((NN (((val xs - 1) / 2 ^ z.toNat) + 1)) w.heap.size)), (5, ((BS 1) w.heap.size))] B5 a5 W5 := S5
  refine wp_ret ?_
  exact end_one S5 rfl (res_tmp S5 0 4 rfl)

theorem g_dab {x k : Nat} {z : Int} (hk : k ≤ 1048576) (hz : 0 ≤ z) (hz2 : z ≤ 9223372036854775807) (hle : 1 ≤ x) : ∀ w u v, Nv x k u w → Is (.int .i64 z) v w → Calls Tryd.prog 44 #[u, v] w (Gives (NN ((x - 1) / 2 ^ z.toNat + 1)) w) := by
  rintro w u v ⟨p, n, c, xs, rfl, h, rfl, hn⟩ e
  obtain rfl : v = _ := e
  exact dab_w w p n c xs z h (by omega) hz hz2 hle

set_option maxHeartbeats 400000 in
theorem zsh_w0 (w : World) (s : Bool) (p : Option Addr) (n c : Nat) (xs : List Nat) (z : Int) (h : Sl w p n c xs) (A : Int) (eA : sg s (val xs) = A) (hn : n ≤ 1048576) (hz0 : -9223372036854775808 ≤ z) (hz9 : z ≤ 9223372036854775807) (hl : 65536 < z) :
    Calls Tryd.prog 21 #[.agg #[.bool s, .slice p n c], .int .i64 z] w (Gives (TWO (IS (.agg #[.bool false, .slice none 0 0])) (IS (.int .i64 2))) w) := by
  refine calls_sta (sl := [(0, (Zx s p n c xs)), (1, (Is (.int .i64 z)))]) Tryd.func21 rfl Tryd.ntmps21 (by simp) (args_cons rfl (zx_has h) (args_cons rfl (is_has _) args_nil)) ?_
  intro a0 S0
  refine wp_stmt_seq [.new (.box 24 (Zx s p n c xs)),
      .new (.box 24 (Is (.agg #[.bool false, .slice none 0 0]))),
      .val (Is (.int .i64 0))] [.inl 0, .inl 1] [.inl 2, .inr 1] follows S0 rfl (by kernel_rfl) ?_ ?_
  · refine ⟨⟨⟨trivial, ?_⟩, ?_⟩, ?_⟩
    · exact owe_box rfl (wants_all rfl) rfl (opnd_slot 0 0 rfl (by kernel_rfl)) rfl (fun ρ w h => box_int shp_zx ρ _ _ w h)
    · exact owe_new rfl (wants_all rfl) rfl rfl (fun ρ w => alloc_int ρ _ w)
    · exact owe_move rfl (wants_all rfl) (Or.inr rfl) (opnd_const _) rfl
  intro B1 a1 W1 S1
  replace S1 : Sta w 47 [(2, (.box 24 (Zx s p n c xs))), (4, (.box 24 (Is (.agg #[.bool false, .slice none 0 0]))))] [(5, (Is (.int .i64 0))), (1, (Is (.int .i64 z)))] B1 a1 W1 := S1
  refine wp_seq ?_
  refine wp_block ?_
  refine wp_stmt_seq [.val (Is (.int .i64 z)),
      .val (Is (.bool true)),
      .val (Is (.bool true)),
      .off,
      .off,
      .val (Is (.bool true)),
      .val (Is (.bool true))] [.inr 0, .inr 1] [.inl 6, .inr 0, .inr 1] follows S1 rfl (by kernel_rfl) ?_ ?_
  · refine ⟨⟨⟨⟨⟨⟨⟨trivial, ?_⟩, ?_⟩, ?_⟩, ?_⟩, ?_⟩, ?_⟩, ?_⟩
    · exact owe_move rfl (wants_all rfl) (Or.inl rfl) (opnd_slot 1 1 rfl (by kernel_rfl)) rfl
    · exact owe_bin rfl (wants_all rfl) rfl (opnd_op 0 9 (by kernel_rfl) rfl) (opnd_const _) rfl (fun ρ w h1 h2 => by exact run_gtr_int_t ρ _ _ _ w _ _ hl h1 h2)
    · exact owe_move rfl (wants_all rfl) (Or.inl rfl) (opnd_op 1 10 (by kernel_rfl) rfl) rfl
    · exact owe_off 2 11 rfl rfl rfl (by kernel_rfl) rfl (by decide)
    · exact owe_off 2 11 rfl rfl rfl (by kernel_rfl) rfl (by decide)
    · exact owe_pick rfl (wants_all rfl) rfl (opnd_op 2 11 (by kernel_rfl) rfl) (fun _ => (opnd_const _)) (fun h => nomatch h) rfl
    · exact owe_move rfl (wants_all rfl) (Or.inr rfl) (opnd_op 5 14 (by kernel_rfl) rfl) rfl
  intro B2 a2 W2 S2
  replace S2 : Sta w 47 [(2, (.box 24 (Zx s p n c xs))), (4, (.box 24 (Is (.agg #[.bool false, .slice none 0 0]))))] [(8, (Is (.bool true))), (5, (Is (.int .i64 0))), (1, (Is (.int .i64 z)))] B2 a2 W2 := S2
  refine wp_cond_true (S2.bool 0 8 rfl) ?_
  refine wp_stmt_seq [.val (Is (.agg #[.bool false, .slice none 0 0])),
      .put (.inl 4) (.box 24 (Is (.agg #[.bool false, .slice none 0 0]))),
      .val (Is (.int .i64 2))] [.inr 0, .inr 1] [.inl 2, .inr 0, .inr 2] follows S2 rfl (by kernel_rfl) ?_ ?_
  · refine ⟨⟨⟨trivial, ?_⟩, ?_⟩, ?_⟩
    · exact owe_build_int rfl (wants_all rfl) rfl rfl
    · exact owe_set rfl (wants_all rfl) rfl (k := 1) rfl (by kernel_rfl) (opnd_op 0 15 (by kernel_rfl) rfl) (stores_of strct_int shp_z0 shp_z0) rfl
    · exact owe_move rfl (wants_all rfl) (Or.inr rfl) (opnd_const _) rfl
  intro B3 a3 W3 S3
  replace S3 : Sta w 47 [(2, (.box 24 (Zx s p n c xs))), (4, (.box 24 (Is (.agg #[.bool false, .slice none 0 0]))))] [(5, (Is (.int .i64 2))), (8, (Is (.bool true))), (1, (Is (.int .i64 z)))] B3 a3 W3 := S3
  refine wp_ret ?_
  refine inBlkR ?_
  refine thenR ?_
  exact end_two S3 rfl (res_cell S3 1 4 rfl strct_int shp_z0) (res_tmp S3 0 5 rfl)

set_option maxHeartbeats 400000 in
theorem zsh_w1 (w : World) (s : Bool) (p : Option Addr) (n c : Nat) (xs : List Nat) (z : Int) (h : Sl w p n c xs) (A : Int) (eA : sg s (val xs) = A) (hn : n ≤ 1048576) (hz0 : -9223372036854775808 ≤ z) (hz9 : z ≤ 9223372036854775807) (hl : z < -65536) :
    Calls Tryd.prog 21 #[.agg #[.bool s, .slice p n c], .int .i64 z] w (Gives (TWO (IS (.agg #[.bool false, .slice none 0 0])) (IS (.int .i64 2))) w) := by
  refine calls_sta (sl := [(0, (Zx s p n c xs)), (1, (Is (.int .i64 z)))]) Tryd.func21 rfl Tryd.ntmps21 (by simp) (args_cons rfl (zx_has h) (args_cons rfl (is_has _) args_nil)) ?_
  intro a0 S0
  refine wp_stmt_seq [.new (.box 24 (Zx s p n c xs)),
      .new (.box 24 (Is (.agg #[.bool false, .slice none 0 0]))),
      .val (Is (.int .i64 0))] [.inl 0, .inl 1] [.inl 2, .inr 1] follows S0 rfl (by kernel_rfl) ?_ ?_
  · refine ⟨⟨⟨trivial, ?_⟩, ?_⟩, ?_⟩
    · exact owe_box rfl (wants_all rfl) rfl (opnd_slot 0 0 rfl (by kernel_rfl)) rfl (fun ρ w h => box_int shp_zx ρ _ _ w h)
    · exact owe_new rfl (wants_all rfl) rfl rfl (fun ρ w => alloc_int ρ _ w)
    · exact owe_move rfl (wants_all rfl) (Or.inr rfl) (opnd_const _) rfl
  intro B1 a1 W1 S1
  replace S1 : Sta w 47 [(2, (.box 24 (Zx s p n c xs))), (4, (.box 24 (Is (.agg #[.bool false, .slice none 0 0]))))] [(5, (Is (.int .i64 0))), (1, (Is (.int .i64 z)))] B1 a1 W1 := S1
  refine wp_seq ?_
  refine wp_block ?_
  refine wp_stmt_seq [.val (Is (.int .i64 z)),
      .val (Is (.bool false)),
      .val (Is (.bool false)),
      .val (Is (.int .i64 z)),
      .val (Is (.bool true)),
      .val (Is (.bool true)),
      .val (Is (.bool true))] [.inr 0, .inr 1] [.inl 6, .inr 0, .inr 1] follows S1 rfl (by kernel_rfl) ?_ ?_
  · refine ⟨⟨⟨⟨⟨⟨⟨trivial, ?_⟩, ?_⟩, ?_⟩, ?_⟩, ?_⟩, ?_⟩, ?_⟩
    · exact owe_move rfl (wants_all rfl) (Or.inl rfl) (opnd_slot 1 1 rfl (by kernel_rfl)) rfl
    · exact owe_bin rfl (wants_all rfl) rfl (opnd_op 0 9 (by kernel_rfl) rfl) (opnd_const _) rfl (fun ρ w h1 h2 => by exact run_gtr_int_f ρ _ _ _ w _ _ (by omega) h1 h2)
    · exact owe_move rfl (wants_all rfl) (Or.inl rfl) (opnd_op 1 10 (by kernel_rfl) rfl) rfl
    · exact owe_move rfl (wants_if 2 11 rfl (by kernel_rfl) rfl) (Or.inl rfl) (opnd_slot 1 1 rfl (by kernel_rfl)) rfl
    · exact owe_bin rfl (wants_if 2 11 rfl (by kernel_rfl) rfl) rfl (opnd_op 3 12 (by kernel_rfl) rfl) (opnd_const _) rfl (fun ρ w h1 h2 => by exact run_lss_int_t ρ _ _ _ w _ _ hl h1 h2)
    · exact owe_pick rfl (wants_all rfl) rfl (opnd_op 2 11 (by kernel_rfl) rfl) (fun h => nomatch h) (fun _ => (opnd_op 4 13 (by kernel_rfl) rfl)) rfl
    · exact owe_move rfl (wants_all rfl) (Or.inr rfl) (opnd_op 5 14 (by kernel_rfl) rfl) rfl
  intro B2 a2 W2 S2
  replace S2 : Sta w 47 [(2, (.box 24 (Zx s p n c xs))), (4, (.box 24 (Is (.agg #[.bool false, .slice none 0 0]))))] [(8, (Is (.bool true))), (5, (Is (.int .i64 0))), (1, (Is (.int .i64 z)))] B2 a2 W2 := S2
  refine wp_cond_true (S2.bool 0 8 rfl) ?_
  refine wp_stmt_seq [.val (Is (.agg #[.bool false, .slice none 0 0])),
      .put (.inl 4) (.box 24 (Is (.agg #[.bool false, .slice none 0 0]))),
      .val (Is (.int .i64 2))] [.inr 0, .inr 1] [.inl 2, .inr 0, .inr 2] follows S2 rfl (by kernel_rfl) ?_ ?_
  · refine ⟨⟨⟨trivial, ?_⟩, ?_⟩, ?_⟩
    · exact owe_build_int rfl (wants_all rfl) rfl rfl
    · exact owe_set rfl (wants_all rfl) rfl (k := 1) rfl (by kernel_rfl) (opnd_op 0 15 (by kernel_rfl) rfl) (stores_of strct_int shp_z0 shp_z0) rfl
    · exact owe_move rfl (wants_all rfl) (Or.inr rfl) (opnd_const _) rfl
  intro B3 a3 W3 S3
  replace S3 : Sta w 47 [(2, (.box 24 (Zx s p n c xs))), (4, (.box 24 (Is (.agg #[.bool false, .slice none 0 0]))))] [(5, (Is (.int .i64 2))), (8, (Is (.bool true))), (1, (Is (.int .i64 z)))] B3 a3 W3 := S3
  refine wp_ret ?_
  refine inBlkR ?_
  refine thenR ?_
  exact end_two S3 rfl (res_cell S3 1 4 rfl strct_int shp_z0) (res_tmp S3 0 5 rfl)

set_option maxHeartbeats 400000 in
theorem zsh_w2 (w : World) (s : Bool) (p : Option Addr) (n c : Nat) (xs : List Nat) (z : Int) (h : Sl w p n c xs) (A : Int) (eA : sg s (val xs) = A) (hn : n ≤ 1048576) (hz0 : -9223372036854775808 ≤ z) (hz9 : z ≤ 9223372036854775807) (hz : 0 ≤ z) (hz2 : z ≤ 65536) :
    Calls Tryd.prog 21 #[.agg #[.bool s, .slice p n c], .int .i64 z] w (Gives (TWO (ZN (sg s (val xs * 2 ^ z.toNat))) (IS (.int .i64 0))) w) := by
  refine calls_sta (sl := [(0, (Zx s p n c xs)), (1, (Is (.int .i64 z)))]) Tryd.func21 rfl Tryd.ntmps21 (by simp) (args_cons rfl (zx_has h) (args_cons rfl (is_has _) args_nil)) ?_
  intro a0 S0
  refine wp_stmt_seq [.new (.box 24 (Zx s p n c xs)),
      .new (.box 24 (Is (.agg #[.bool false, .slice none 0 0]))),
      .val (Is (.int .i64 0))] [.inl 0, .inl 1] [.inl 2, .inr 1] follows S0 rfl (by kernel_rfl) ?_ ?_
  · refine ⟨⟨⟨trivial, ?_⟩, ?_⟩, ?_⟩
    · exact owe_box rfl (wants_all rfl) rfl (opnd_slot 0 0 rfl (by kernel_rfl)) rfl (fun ρ w h => box_int shp_zx ρ _ _ w h)
    · exact owe_new rfl (wants_all rfl) rfl rfl (fun ρ w => alloc_int ρ _ w)
    · exact owe_move rfl (wants_all rfl) (Or.inr rfl) (opnd_const _) rfl
  intro B1 a1 W1 S1
  replace S1 : Sta w 47 [(2, (.box 24 (Zx s p n c xs))), (4, (.box 24 (Is (.agg #[.bool false, .slice none 0 0]))))] [(5, (Is (.int .i64 0))), (1, (Is (.int .i64 z)))] B1 a1 W1 := S1
  refine wp_seq ?_
  refine wp_block ?_
  refine wp_stmt_seq [.val (Is (.int .i64 z)),
      .val (Is (.bool false)),
      .val (Is (.bool false)),
      .val (Is (.int .i64 z)),
      .val (Is (.bool false)),
      .val (Is (.bool false)),
      .val (Is (.bool false))] [.inr 0, .inr 1] [.inl 6, .inr 0, .inr 1] follows S1 rfl (by kernel_rfl) ?_ ?_
  · refine ⟨⟨⟨⟨⟨⟨⟨trivial, ?_⟩, ?_⟩, ?_⟩, ?_⟩, ?_⟩, ?_⟩, ?_⟩
    · exact owe_move rfl (wants_all rfl) (Or.inl rfl) (opnd_slot 1 1 rfl (by kernel_rfl)) rfl
    · exact owe_bin rfl (wants_all rfl) rfl (opnd_op 0 9 (by kernel_rfl) rfl) (opnd_const _) rfl (fun ρ w h1 h2 => by exact run_gtr_int_f ρ _ _ _ w _ _ (by omega) h1 h2)
    · exact owe_move rfl (wants_all rfl) (Or.inl rfl) (opnd_op 1 10 (by kernel_rfl) rfl) rfl
    · exact owe_move rfl (wants_if 2 11 rfl (by kernel_rfl) rfl) (Or.inl rfl) (opnd_slot 1 1 rfl (by kernel_rfl)) rfl
    · exact owe_bin rfl (wants_if 2 11 rfl (by kernel_rfl) rfl) rfl (opnd_op 3 12 (by kernel_rfl) rfl) (opnd_const _) rfl (fun ρ w h1 h2 => by exact run_lss_int_f ρ _ _ _ w _ _ (by omega) h1 h2)
    · exact owe_pick rfl (wants_all rfl) rfl (opnd_op 2 11 (by kernel_rfl) rfl) (fun h => nomatch h) (fun _ => (opnd_op 4 13 (by kernel_rfl) rfl)) rfl
    · exact owe_move rfl (wants_all rfl) (Or.inr rfl) (opnd_op 5 14 (by kernel_rfl) rfl) rfl
  intro B2 a2 W2 S2
  replace S2 : Sta w 47 [(2, (.box 24 (Zx s p n c xs))), (4, (.box 24 (Is (.agg #[.bool false, .slice none 0 0]))))] [(8, (Is (.bool false))), (5, (Is (.int .i64 0))), (1, (Is (.int .i64 z)))] B2 a2 W2 := S2
  refine wp_cond_false (S2.bool 0 8 rfl) ?_
  refine wp_stmt_seq [.val (Is (.int .i64 z)),
      .val (Is (.bool true)),
      .val (Is (.bool true))] [.inr 0, .inr 1] [.inl 2, .inr 0, .inr 1, .inr 2] follows S2 rfl (by kernel_rfl) ?_ ?_
  · refine ⟨⟨⟨trivial, ?_⟩, ?_⟩, ?_⟩
    · exact owe_move rfl (wants_all rfl) (Or.inl rfl) (opnd_slot 2 1 rfl (by kernel_rfl)) rfl
    · exact owe_bin rfl (wants_all rfl) rfl (opnd_op 0 17 (by kernel_rfl) rfl) (opnd_const _) rfl (fun ρ w h1 h2 => by exact run_geq_int_t ρ _ _ _ w _ _ hz h1 h2)
    · exact owe_move rfl (wants_all rfl) (Or.inr rfl) (opnd_op 1 18 (by kernel_rfl) rfl) rfl
  intro B3 a3 W3 S3
  replace S3 : Sta w 47 [(2, (.box 24 (Zx s p n c xs))), (4, (.box 24 (Is (.agg #[.bool false, .slice none 0 0]))))] [(16, (Is (.bool true))), (8, (Is (.bool false))), (5, (Is (.int .i64 0))), (1, (Is (.int .i64 z)))] B3 a3 W3 := S3
  refine wp_cond_true (S3.bool 0 16 rfl) ?_
  refine wp_stmt_seq [.val (Part a3 2 0),
      .val (Is (.bool s)),
      .val (Part a3 2 1),
      .val (Nx p n c xs),
      .val (Is (.int .i64 z)),
      .val ((NN (val xs * 2 ^ z.toNat)) w.heap.size),
      .val ((ZN (sg s (val xs * 2 ^ z.toNat))) w.heap.size),
      .put (.inl 4) (.box 24 ((ZN (sg s (val xs * 2 ^ z.toNat))) w.heap.size)),
      .val (Is (.int .i64 0))] [.inr 0, .inr 1] [.inl 8, .inr 0, .inr 1, .inr 3] follows S3 rfl (by kernel_rfl) ?_ ?_
  · refine ⟨⟨⟨⟨⟨⟨⟨⟨⟨trivial, ?_⟩, ?_⟩, ?_⟩, ?_⟩, ?_⟩, ?_⟩, ?_⟩, ?_⟩, ?_⟩
    · exact owe_part rfl (wants_all rfl) rfl (k := 0) rfl (by kernel_rfl) rfl (fun ρ w b h => part_int0 ρ _ _ w b 0 h)
    · exact owe_pload rfl (wants_all rfl) rfl (opnd_op 0 19 (by kernel_rfl) rfl) (k := 0) rfl (by kernel_rfl) rfl (fun ρ w b u h1 h2 h3 => pload_neg zx_neg ρ _ _ w b u h1 h2 h3)
    · exact owe_part rfl (wants_all rfl) rfl (k := 0) rfl (by kernel_rfl) rfl (fun ρ w b h => part_int1 ρ _ _ w b 0 h)
    · exact owe_pload rfl (wants_all rfl) rfl (opnd_op 2 21 (by kernel_rfl) rfl) (k := 0) rfl (by kernel_rfl) rfl (fun ρ w b u h1 h2 h3 => pload_mag zx_mag ρ _ _ w b u h1 h2 h3)
    · exact owe_move rfl (wants_all rfl) (Or.inl rfl) (opnd_slot 3 1 rfl (by kernel_rfl)) rfl
    · exact owe_call2 rfl (wants_all rfl) rfl (opnd_op 3 22 (by kernel_rfl) rfl) (opnd_op 4 23 (by kernel_rfl) rfl) (fresh_nn _) rfl (fun args w => by go_simp) (fun w u v h1 h2 => g_up (by omega) hz hz2 w u v ((nx_nv (Nat.le_refl _)) _ _ h1) h2)
    · exact owe_callF2 rfl (wants_all rfl) rfl (opnd_op 1 20 (by kernel_rfl) rfl) (opnd_op 5 24 (by kernel_rfl) rfl) rfl (fun args w => by go_simp) g_signed
    · exact owe_set rfl (wants_all rfl) rfl (k := 1) rfl (by kernel_rfl) (opnd_op 6 25 (by kernel_rfl) rfl) (stores_of strct_int shp_z0 shp_zn) rfl
    · exact owe_move rfl (wants_all rfl) (Or.inr rfl) (opnd_const _) rfl
  intro B4 a4 W4 S4
  replace S4 : Sta w 47 [(2, (.box 24 (Zx s p n c xs))), (4, (.box 24 ((ZN (sg s (val xs * 2 ^ z.toNat))) w.heap.size)))] [(5, (Is (.int .i64 0))), (16, (Is (.bool true))), (8, (Is (.bool false))), (1, (Is (.int .i64 z)))] B4 a4 W4 := S4
  refine wp_ret ?_
  refine inBlkR ?_
  refine thenR ?_
  exact end_two S4 rfl (res_cell S4 1 4 rfl strct_int shp_zn) (res_tmp S4 0 5 rfl)

set_option maxHeartbeats 400000 in
theorem zsh_w3 (w : World) (s : Bool) (p : Option Addr) (n c : Nat) (xs : List Nat) (z : Int) (h : Sl w p n c xs) (A : Int) (eA : sg s (val xs) = A) (hn : n ≤ 1048576) (hz0 : -9223372036854775808 ≤ z) (hz9 : z ≤ 9223372036854775807) (hz : z < 0) (hz2 : -65536 ≤ z) (hA : A.sign < 0) (hle : 1 ≤ val xs) :
    Calls Tryd.prog 21 #[.agg #[.bool s, .slice p n c], .int .i64 z] w (Gives (TWO (ZN (sg true ((val xs - 1) / 2 ^ (-z).toNat + 1))) (IS (.int .i64 0))) w) := by
  refine calls_sta (sl := [(0, (Zx s p n c xs)), (1, (Is (.int .i64 z)))]) Tryd.func21 rfl Tryd.ntmps21 (by simp) (args_cons rfl (zx_has h) (args_cons rfl (is_has _) args_nil)) ?_
  intro a0 S0
  refine wp_stmt_seq [.new (.box 24 (Zx s p n c xs)),
      .new (.box 24 (Is (.agg #[.bool false, .slice none 0 0]))),
      .val (Is (.int .i64 0))] [.inl 0, .inl 1] [.inl 2, .inr 1] follows S0 rfl (by kernel_rfl) ?_ ?_
  · refine ⟨⟨⟨trivial, ?_⟩, ?_⟩, ?_⟩
    · exact owe_box rfl (wants_all rfl) rfl (opnd_slot 0 0 rfl (by kernel_rfl)) rfl (fun ρ w h => box_int shp_zx ρ _ _ w h)
    · exact owe_new rfl (wants_all rfl) rfl rfl (fun ρ w => alloc_int ρ _ w)
    · exact owe_move rfl (wants_all rfl) (Or.inr rfl) (opnd_const _) rfl
  intro B1 a1 W1 S1
  replace S1 : Sta w 47 [(2, (.box 24 (Zx s p n c xs))), (4, (.box 24 (Is (.agg #[.bool false, .slice none 0 0]))))] [(5, (Is (.int .i64 0))), (1, (Is (.int .i64 z)))] B1 a1 W1 := S1
  refine wp_seq ?_
  refine wp_block ?_
  refine wp_stmt_seq [.val (Is (.int .i64 z)),
      .val (Is (.bool false)),
      .val (Is (.bool false)),
      .val (Is (.int .i64 z)),
      .val (Is (.bool false)),
      .val (Is (.bool false)),
      .val (Is (.bool false))] [.inr 0, .inr 1] [.inl 6, .inr 0, .inr 1] follows S1 rfl (by kernel_rfl) ?_ ?_
  · refine ⟨⟨⟨⟨⟨⟨⟨trivial, ?_⟩, ?_⟩, ?_⟩, ?_⟩, ?_⟩, ?_⟩, ?_⟩
    · exact owe_move rfl (wants_all rfl) (Or.inl rfl) (opnd_slot 1 1 rfl (by kernel_rfl)) rfl
    · exact owe_bin rfl (wants_all rfl) rfl (opnd_op 0 9 (by kernel_rfl) rfl) (opnd_const _) rfl (fun ρ w h1 h2 => by exact run_gtr_int_f ρ _ _ _ w _ _ (by omega) h1 h2)
    · exact owe_move rfl (wants_all rfl) (Or.inl rfl) (opnd_op 1 10 (by kernel_rfl) rfl) rfl
    · exact owe_move rfl (wants_if 2 11 rfl (by kernel_rfl) rfl) (Or.inl rfl) (opnd_slot 1 1 rfl (by kernel_rfl)) rfl
    · exact owe_bin rfl (wants_if 2 11 rfl (by kernel_rfl) rfl) rfl (opnd_op 3 12 (by kernel_rfl) rfl) (opnd_const _) rfl (fun ρ w h1 h2 => by exact run_lss_int_f ρ _ _ _ w _ _ (by omega) h1 h2)
    · exact owe_pick rfl (wants_all rfl) rfl (opnd_op 2 11 (by kernel_rfl) rfl) (fun h => nomatch h) (fun _ => (opnd_op 4 13 (by kernel_rfl) rfl)) rfl
    · exact owe_move rfl (wants_all rfl) (Or.inr rfl) (opnd_op 5 14 (by kernel_rfl) rfl) rfl
  intro B2 a2 W2 S2
  replace S2 : Sta w 47 [(2, (.box 24 (Zx s p n c xs))), (4, (.box 24 (Is (.agg #[.bool false, .slice none 0 0]))))] [(8, (Is (.bool false))), (5, (Is (.int .i64 0))), (1, (Is (.int .i64 z)))] B2 a2 W2 := S2
  refine wp_cond_false (S2.bool 0 8 rfl) ?_
  refine wp_stmt_seq [.val (Is (.int .i64 z)),
      .val (Is (.bool false)),
      .val (Is (.bool false))] [.inr 0, .inr 1] [.inl 2, .inr 0, .inr 1, .inr 2] follows S2 rfl (by kernel_rfl) ?_ ?_
  · refine ⟨⟨⟨trivial, ?_⟩, ?_⟩, ?_⟩
    · exact owe_move rfl (wants_all rfl) (Or.inl rfl) (opnd_slot 2 1 rfl (by kernel_rfl)) rfl
    · exact owe_bin rfl (wants_all rfl) rfl (opnd_op 0 17 (by kernel_rfl) rfl) (opnd_const _) rfl (fun ρ w h1 h2 => by exact run_geq_int_f ρ _ _ _ w _ _ hz h1 h2)
    · exact owe_move rfl (wants_all rfl) (Or.inr rfl) (opnd_op 1 18 (by kernel_rfl) rfl) rfl
  intro B3 a3 W3 S3
  replace S3 : Sta w 47 [(2, (.box 24 (Zx s p n c xs))), (4, (.box 24 (Is (.agg #[.bool false, .slice none 0 0]))))] [(16, (Is (.bool false))), (8, (Is (.bool false))), (5, (Is (.int .i64 0))), (1, (Is (.int .i64 z)))] B3 a3 W3 := S3
  refine wp_cond_false (S3.bool 0 16 rfl) ?_
  refine wp_stmt_seq [.val (Zx s p n c xs),
      .val (Is (.int .i64 (A).sign)),
      .val (Is (.bool true)),
      .val (Is (.bool true))] [.inr 0, .inr 1] [.inl 3, .inr 0, .inr 1, .inr 2, .inr 3] follows S3 rfl (by kernel_rfl) ?_ ?_
  · refine ⟨⟨⟨⟨trivial, ?_⟩, ?_⟩, ?_⟩, ?_⟩
    · exact owe_load rfl (wants_all rfl) rfl (k := 0) rfl (by kernel_rfl) (loads_of strct_int shp_zx) rfl
    · exact owe_call1 rfl (wants_all rfl) rfl (opnd_op 0 27 (by kernel_rfl) rfl) (fresh_is _) rfl (fun args w => by go_simp) (fun w u h1 => g_zsign (by omega) w u ((zx_zv' eA (Nat.le_refl _)) _ _ h1))
    · exact owe_bin rfl (wants_all rfl) rfl (opnd_op 1 28 (by kernel_rfl) rfl) (opnd_const _) rfl (fun ρ w h1 h2 => by exact run_lss_int_t ρ _ _ _ w _ _ hA h1 h2)
    · exact owe_move rfl (wants_all rfl) (Or.inr rfl) (opnd_op 2 29 (by kernel_rfl) rfl) rfl
  intro B4 a4 W4 S4
  replace S4 : Sta w 47 [(2, (.box 24 (Zx s p n c xs))), (4, (.box 24 (Is (.agg #[.bool false, .slice none 0 0]))))] [(26, (Is (.bool true))), (16, (Is (.bool false))), (8, (Is (.bool false))), (5, (Is (.int .i64 0))), (1, (Is (.int .i64 z)))] B4 a4 W4 := S4
  refine wp_cond_true (S4.bool 0 26 rfl) ?_
  refine wp_stmt_seq [.val (Part a4 2 1),
      .val (Nx p n c xs),
      .val (Is (.int .i64 z)),
      .val (Is (.int .i64 (-z))),
      .val ((NN ((val xs - 1) / 2 ^ (-z).toNat + 1)) w.heap.size),
      .val ((ZN (sg true ((val xs - 1) / 2 ^ (-z).toNat + 1))) w.heap.size),
      .put (.inl 4) (.box 24 ((ZN (sg true ((val xs - 1) / 2 ^ (-z).toNat + 1))) w.heap.size)),
      .val (Is (.int .i64 0))] [.inr 0, .inr 1] [.inl 7, .inr 0, .inr 1, .inr 2, .inr 4] follows S4 rfl (by kernel_rfl) ?_ ?_
  · refine ⟨⟨⟨⟨⟨⟨⟨⟨trivial, ?_⟩, ?_⟩, ?_⟩, ?_⟩, ?_⟩, ?_⟩, ?_⟩, ?_⟩
    · exact owe_part rfl (wants_all rfl) rfl (k := 0) rfl (by kernel_rfl) rfl (fun ρ w b h => part_int1 ρ _ _ w b 0 h)
    · exact owe_pload rfl (wants_all rfl) rfl (opnd_op 0 30 (by kernel_rfl) rfl) (k := 0) rfl (by kernel_rfl) rfl (fun ρ w b u h1 h2 h3 => pload_mag zx_mag ρ _ _ w b u h1 h2 h3)
    · exact owe_move rfl (wants_all rfl) (Or.inl rfl) (opnd_slot 4 1 rfl (by kernel_rfl)) rfl
    · exact owe_un (x := .tmp 32) rfl (wants_all rfl) rfl (opnd_op 2 32 (by kernel_rfl) rfl) rfl (fun ρ w h1 => run_neg_int ρ _ _ w _ _ ⟨rfl, by omega, by omega⟩ h1)
    · exact owe_call2 rfl (wants_all rfl) rfl (opnd_op 1 31 (by kernel_rfl) rfl) (opnd_op 3 33 (by kernel_rfl) rfl) (fresh_nn _) rfl (fun args w => by go_simp) (fun w u v h1 h2 => g_dab (by omega) (by omega) (by omega) hle w u v ((nx_nv (Nat.le_refl _)) _ _ h1) h2)
    · exact owe_callF2 rfl (wants_all rfl) rfl (opnd_const _) (opnd_op 4 34 (by kernel_rfl) rfl) rfl (fun args w => by go_simp) g_signed
    · exact owe_set rfl (wants_all rfl) rfl (k := 1) rfl (by kernel_rfl) (opnd_op 5 35 (by kernel_rfl) rfl) (stores_of strct_int shp_z0 shp_zn) rfl
    · exact owe_move rfl (wants_all rfl) (Or.inr rfl) (opnd_const _) rfl
  intro B5 a5 W5 S5
  replace S5 : Sta w 47 [(2, (.box 24 (Zx s p n c xs))), (4, (.box 24 ((ZN (sg true ((val xs - 1) / 2 ^ (-z).toNat + 1))) w.heap.size)))] [(5, (Is (.int .i64 0))), (26, (Is (.bool true))), (16, (Is (.bool false))), (8, (Is (.bool false))), (1, (Is (.int .i64 z)))] B5 a5 W5 := S5
  refine wp_ret ?_
  refine inBlkR ?_
  refine thenR ?_
  exact end_two S5 rfl (res_cell S5 1 4 rfl strct_int shp_zn) (res_tmp S5 0 5 rfl)

set_option maxHeartbeats 400000 in
theorem zsh_w4 (w : World) (s : Bool) (p : Option Addr) (n c : Nat) (xs : List Nat) (z : Int) (h : Sl w p n c xs) (A : Int) (eA : sg s (val xs) = A) (hn : n ≤ 1048576) (hz0 : -9223372036854775808 ≤ z) (hz9 : z ≤ 9223372036854775807) (hz : z < 0) (hz2 : -65536 ≤ z) (hA : 0 ≤ A.sign) :
    Calls Tryd.prog 21 #[.agg #[.bool s, .slice p n c], .int .i64 z] w (Gives (TWO (ZN (sg false (val xs / 2 ^ (-z).toNat))) (IS (.int .i64 0))) w) := by
  refine calls_sta (sl := [(0, (Zx s p n c xs)), (1, (Is (.int .i64 z)))]) Tryd.func21 rfl Tryd.ntmps21 (by simp) (args_cons rfl (zx_has h) (args_cons rfl (is_has _) args_nil)) ?_
  intro a0 S0
  refine wp_stmt_seq [.new (.box 24 (Zx s p n c xs)),
      .new (.box 24 (Is (.agg #[.bool false, .slice none 0 0]))),
      .val (Is (.int .i64 0))] [.inl 0, .inl 1] [.inl 2, .inr 1] follows S0 rfl (by kernel_rfl) ?_ ?_
  · refine ⟨⟨⟨trivial, ?_⟩, ?_⟩, ?_⟩
    · exact owe_box rfl (wants_all rfl) rfl (opnd_slot 0 0 rfl (by kernel_rfl)) rfl (fun ρ w h => box_int shp_zx ρ _ _ w h)
    · exact owe_new rfl (wants_all rfl) rfl rfl (fun ρ w => alloc_int ρ _ w)
    · exact owe_move rfl (wants_all rfl) (Or.inr rfl) (opnd_const _) rfl
  intro B1 a1 W1 S1
  replace S1 : Sta w 47 [(2, (.box 24 (Zx s p n c xs))), (4, (.box 24 (Is (.agg #[.bool false, .slice none 0 0]))))] [(5, (Is (.int .i64 0))), (1, (Is (.int .i64 z)))] B1 a1 W1 := S1
  refine wp_seq ?_
  refine wp_block ?_
  refine wp_stmt_seq [.val (Is (.int .i64 z)),
      .val (Is (.bool false)),
      .val (Is (.bool false)),
      .val (Is (.int .i64 z)),
      .val (Is (.bool false)),
      .val (Is (.bool false)),
      .val (Is (.bool false))] [.inr 0, .inr 1] [.inl 6, .inr 0, .inr 1] follows S1 rfl (by kernel_rfl) ?_ ?_
  · refine ⟨⟨⟨⟨⟨⟨⟨trivial, ?_⟩, ?_⟩, ?_⟩, ?_⟩, ?_⟩, ?_⟩, ?_⟩
    · exact owe_move rfl (wants_all rfl) (Or.inl rfl) (opnd_slot 1 1 rfl (by kernel_rfl)) rfl
    · exact owe_bin rfl (wants_all rfl) rfl (opnd_op 0 9 (by kernel_rfl) rfl) (opnd_const _) rfl (fun ρ w h1 h2 => by exact run_gtr_int_f ρ _ _ _ w _ _ (by omega) h1 h2)
    · exact owe_move rfl (wants_all rfl) (Or.inl rfl) (opnd_op 1 10 (by kernel_rfl) rfl) rfl
    · exact owe_move rfl (wants_if 2 11 rfl (by kernel_rfl) rfl) (Or.inl rfl) (opnd_slot 1 1 rfl (by kernel_rfl)) rfl
    · exact owe_bin rfl (wants_if 2 11 rfl (by kernel_rfl) rfl) rfl (opnd_op 3 12 (by kernel_rfl) rfl) (opnd_const _) rfl (fun ρ w h1 h2 => by exact run_lss_int_f ρ _ _ _ w _ _ (by omega) h1 h2)
    · exact owe_pick rfl (wants_all rfl) rfl (opnd_op 2 11 (by kernel_rfl) rfl) (fun h => nomatch h) (fun _ => (opnd_op 4 13 (by kernel_rfl) rfl)) rfl
    · exact owe_move rfl (wants_all rfl) (Or.inr rfl) (opnd_op 5 14 (by kernel_rfl) rfl) rfl
  intro B2 a2 W2 S2
  replace S2 : Sta w 47 [(2, (.box 24 (Zx s p n c xs))), (4, (.box 24 (Is (.agg #[.bool false, .slice none 0 0]))))] [(8, (Is (.bool false))), (5, (Is (.int .i64 0))), (1, (Is (.int .i64 z)))] B2 a2 W2 := S2
  refine wp_cond_false (S2.bool 0 8 rfl) ?_
  refine wp_stmt_seq [.val (Is (.int .i64 z)),
      .val (Is (.bool false)),
      .val (Is (.bool false))] [.inr 0, .inr 1] [.inl 2, .inr 0, .inr 1, .inr 2] follows S2 rfl (by kernel_rfl) ?_ ?_
  · refine ⟨⟨⟨trivial, ?_⟩, ?_⟩, ?_⟩
    · exact owe_move rfl (wants_all rfl) (Or.inl rfl) (opnd_slot 2 1 rfl (by kernel_rfl)) rfl
    · exact owe_bin rfl (wants_all rfl) rfl (opnd_op 0 17 (by kernel_rfl) rfl) (opnd_const _) rfl (fun ρ w h1 h2 => by exact run_geq_int_f ρ _ _ _ w _ _ hz h1 h2)
    · exact owe_move rfl (wants_all rfl) (Or.inr rfl) (opnd_op 1 18 (by kernel_rfl) rfl) rfl
  intro B3 a3 W3 S3
  replace S3 : Sta w 47 [(2, (.box 24 (Zx s p n c xs))), (4, (.box 24 (Is (.agg #[.bool false, .slice none 0 0]))))] [(16, (Is (.bool false))), (8, (Is (.bool false))), (5, (Is (.int .i64 0))), (1, (Is (.int .i64 z)))] B3 a3 W3 := S3
  refine wp_cond_false (S3.bool 0 16 rfl) ?_
  refine wp_stmt_seq [.val (Zx s p n c xs),
      .val (Is (.int .i64 (A).sign)),
      .val (Is (.bool false)),
      .val (Is (.bool false))] [.inr 0, .inr 1] [.inl 3, .inr 0, .inr 1, .inr 2, .inr 3] follows S3 rfl (by kernel_rfl) ?_ ?_
  · refine ⟨⟨⟨⟨trivial, ?_⟩, ?_⟩, ?_⟩, ?_⟩
    · exact owe_load rfl (wants_all rfl) rfl (k := 0) rfl (by kernel_rfl) (loads_of strct_int shp_zx) rfl
    · exact owe_call1 rfl (wants_all rfl) rfl (opnd_op 0 27 (by kernel_rfl) rfl) (fresh_is _) rfl (fun args w => by go_simp) (fun w u h1 => g_zsign (by omega) w u ((zx_zv' eA (Nat.le_refl _)) _ _ h1))
    · exact owe_bin rfl (wants_all rfl) rfl (opnd_op 1 28 (by kernel_rfl) rfl) (opnd_const _) rfl (fun ρ w h1 h2 => by exact run_lss_int_f ρ _ _ _ w _ _ hA h1 h2)
    · exact owe_move rfl (wants_all rfl) (Or.inr rfl) (opnd_op 2 29 (by kernel_rfl) rfl) rfl
  intro B4 a4 W4 S4
  replace S4 : Sta w 47 [(2, (.box 24 (Zx s p n c xs))), (4, (.box 24 (Is (.agg #[.bool false, .slice none 0 0]))))] [(26, (Is (.bool false))), (16, (Is (.bool false))), (8, (Is (.bool false))), (5, (Is (.int .i64 0))), (1, (Is (.int .i64 z)))] B4 a4 W4 := S4
  refine wp_cond_false (S4.bool 0 26 rfl) ?_
  refine wp_skip ?_
  refine inBlkN ?_
  refine thenN ?_
  refine wp_stmt_seq [.val (Part a4 2 1),
      .val (Nx p n c xs),
      .val (Is (.int .i64 z)),
      .val (Is (.int .i64 (-z))),
      .val ((TWO (NN (val xs / 2 ^ (-z).toNat)) (IS (.int .i64 0))) w.heap.size),
      .val ((TWO (NN (val xs / 2 ^ (-z).toNat)) (IS (.int .i64 0))) w.heap.size),
      .val ((NN (val xs / 2 ^ (-z).toNat)) w.heap.size),
      .val (Is (.int .i64 0)),
      .val ((NN (val xs / 2 ^ (-z).toNat)) w.heap.size),
      .val (Is (.int .i64 0))] [.inr 0, .inr 1] [.inl 8, .inl 9, .inr 0, .inr 1, .inr 2, .inr 3, .inr 4] follows S4 rfl (by kernel_rfl) ?_ ?_
  · refine ⟨⟨⟨⟨⟨⟨⟨⟨⟨⟨trivial, ?_⟩, ?_⟩, ?_⟩, ?_⟩, ?_⟩, ?_⟩, ?_⟩, ?_⟩, ?_⟩, ?_⟩
    · exact owe_part rfl (wants_all rfl) rfl (k := 0) rfl (by kernel_rfl) rfl (fun ρ w b h => part_int1 ρ _ _ w b 0 h)
    · exact owe_pload rfl (wants_all rfl) rfl (opnd_op 0 37 (by kernel_rfl) rfl) (k := 0) rfl (by kernel_rfl) rfl (fun ρ w b u h1 h2 h3 => pload_mag zx_mag ρ _ _ w b u h1 h2 h3)
    · exact owe_move rfl (wants_all rfl) (Or.inl rfl) (opnd_slot 4 1 rfl (by kernel_rfl)) rfl
    · exact owe_un (x := .tmp 39) rfl (wants_all rfl) rfl (opnd_op 2 39 (by kernel_rfl) rfl) rfl (fun ρ w h1 => run_neg_int ρ _ _ w _ _ ⟨rfl, by omega, by omega⟩ h1)
    · exact owe_call2 rfl (wants_all rfl) rfl (opnd_op 1 38 (by kernel_rfl) rfl) (opnd_op 3 40 (by kernel_rfl) rfl) (fresh_two (fresh_nn _) (fresh_is _)) rfl (fun args w => by go_simp) (fun w u v h1 h2 => g_shr (by omega) (by omega) (by omega) w u v ((nx_nv (Nat.le_refl _)) _ _ h1) h2)
    · exact owe_move rfl (wants_all rfl) (Or.inl rfl) (opnd_op 4 41 (by kernel_rfl) rfl) rfl
    · exact owe_ext2 rfl (wants_all rfl) rfl (opnd_op 5 36 (by kernel_rfl) rfl) (Or.inl ⟨rfl, rfl⟩) rfl
    · exact owe_ext2 rfl (wants_all rfl) rfl (opnd_op 5 36 (by kernel_rfl) rfl) (Or.inr ⟨rfl, rfl⟩) rfl
    · exact owe_move rfl (wants_all rfl) (Or.inr rfl) (opnd_op 6 42 (by kernel_rfl) rfl) rfl
    · exact owe_move rfl (wants_all rfl) (Or.inr rfl) (opnd_op 7 43 (by kernel_rfl) rfl) rfl
  intro B5 a5 W5 S5
  replace S5 : Sta w 47 [(2, (.box 24 (Zx s p n c xs))), (4, (.box 24 (Is (.agg #[.bool false, .slice none 0 0]))))] [(6, ((NN (val xs / 2 ^ (-z).toNat)) w.heap.size)), (7, (Is (.int .i64 0))), (26, (Is (.bool false))), (16, (Is (.bool false))), (8, (Is (.bool false))), (5, (Is (.int .i64 0))), (1, (Is (.int .i64 z)))] B5 a5 W5 := S5
  refine wp_stmt_seq [.val ((NN (val xs / 2 ^ (-z).toNat)) w.heap.size),
      .val ((ZN (sg false (val xs / 2 ^ (-z).toNat))) w.heap.size),
      .val (Is (.int .i64 0)),
      .put (.inl 4) (.box 24 ((ZN (sg false (val xs / 2 ^ (-z).toNat))) w.heap.size)),
      .val (Is (.int .i64 0))] [.inr 0, .inr 1] [.inl 4, .inr 2, .inr 3, .inr 4, .inr 6] follows S5 rfl (by kernel_rfl) ?_ ?_
  · refine ⟨⟨⟨⟨⟨trivial, ?_⟩, ?_⟩, ?_⟩, ?_⟩, ?_⟩
    · exact owe_move rfl (wants_all rfl) (Or.inl rfl) (opnd_slot 0 6 rfl (by kernel_rfl)) rfl
    · exact owe_callF2 rfl (wants_all rfl) rfl (opnd_const _) (opnd_op 0 44 (by kernel_rfl) rfl) rfl (fun args w => by go_simp) g_signed
    · exact owe_move rfl (wants_all rfl) (Or.inl rfl) (opnd_slot 1 7 rfl (by kernel_rfl)) rfl
    · exact owe_set rfl (wants_all rfl) rfl (k := 1) rfl (by kernel_rfl) (opnd_op 1 45 (by kernel_rfl) rfl) (stores_of strct_int shp_z0 shp_zn) rfl
    · exact owe_move rfl (wants_all rfl) (Or.inr rfl) (opnd_op 2 46 (by kernel_rfl) rfl) rfl
  intro B6 a6 W6 S6
  replace S6 : Sta w 47 [(2, (.box 24 (Zx s p n c xs))), (4, (.box 24 ((ZN (sg false (val xs / 2 ^ (-z).toNat))) w.heap.size)))] [(5, (Is (.int .i64 0))), (26, (Is (.bool false))), (16, (Is (.bool false))), (8, (Is (.bool false))), (1, (Is (.int .i64 z)))] B6 a6 W6 := S6
  refine wp_ret ?_
  exact end_two S6 rfl (res_cell S6 1 4 rfl strct_int shp_zn) (res_tmp S6 0 5 rfl)


/-- What Power says: its error, its number. -/
def pe (A z : Int) : Int := if z < 0 then 1 else if 0 < ((Go.bitLen A.natAbs : Nat) : Int) ∧ 65536 / ((Go.bitLen A.natAbs : Nat) : Int) < z then 2 else 0
def pw (A z : Int) : Int := if pe A z = 0 then A ^ z.toNat else 0
/-- What Shift says. -/
def se (z : Int) : Int := if 65536 < z ∨ z < -65536 then 2 else 0
def sw (A z : Int) : Int := if 65536 < z ∨ z < -65536 then 0 else if 0 ≤ z then A * 2 ^ z.toNat else fl A (2 ^ (-z).toNat)
theorem sg_pow (k x : Nat) : sg false (x ^ k) = (sg false x) ^ k := by simp [sg]
theorem neg_pow_even (x : Int) (j : Nat) : (-x) ^ (2 * j) = x ^ (2 * j) := by
  rw [Int.pow_mul, Int.pow_mul]
  congr 1
  rw [Int.pow_succ, Int.pow_succ, Int.pow_zero, Int.pow_succ, Int.pow_succ, Int.pow_zero]
  simp [Int.neg_mul, Int.mul_neg]
theorem sg_pow_even {k : Nat} (x : Nat) (h : k % 2 = 0) : sg false (x ^ k) = (sg true x) ^ k := by
  obtain ⟨j, rfl⟩ : ∃ j, k = 2 * j := ⟨k / 2, by omega⟩
  simp only [sg, Bool.false_eq_true, if_false, if_true]
  rw [neg_pow_even]
  simp
theorem sg_pow_odd {k : Nat} (x : Nat) (h : k % 2 = 1) : sg true (x ^ k) = (sg true x) ^ k := by
  obtain ⟨j, rfl⟩ : ∃ j, k = 2 * j + 1 := ⟨k / 2, by omega⟩
  simp only [sg, if_true]
  rw [Int.pow_succ, neg_pow_even, Int.mul_neg]
  simp [Nat.pow_succ]
theorem bl_abs0 {A : Int} (h : ((Go.bitLen A.natAbs : Nat) : Int) ≤ 0) : A = 0 := by
  have h1 : Go.bitLen A.natAbs ≤ 1 := by omega
  have h2 := bl_le_one.1 h1
  rcases (by omega : A.natAbs = 0 ∨ A.natAbs = 1) with e | e
  · omega
  · rw [e] at h
    exact absurd h (by decide)
theorem bl_abs1 {A : Int} (h : (0 : Int) < ((Go.bitLen A.natAbs : Nat) : Int)) : A ≠ 0 := by
  rintro rfl
  exact absurd h (by decide)
theorem fl_two_neg {x : Nat} (hx : 1 ≤ x) (K : Nat) : sg true ((x - 1) / 2 ^ K + 1) = fl (sg true x) (2 ^ K) := by
  have hp : (0 : Int) < 2 ^ K := Int.pow_pos (by decide)
  unfold fl
  rw [if_pos hp]
  obtain ⟨y, rfl⟩ : ∃ y, x = y + 1 := ⟨x - 1, by omega⟩
  simp only [sg, if_true, Nat.add_sub_cancel]
  rw [show (-((y + 1 : Nat) : Int)) = Int.negSucc y from rfl, Int.negSucc_ediv _ hp]
  simp
  rfl
theorem fl_two_pos (x K : Nat) : sg false (x / 2 ^ K) = fl (sg false x) (2 ^ K) := by
  have hp : (0 : Int) < 2 ^ K := Int.pow_pos (by decide)
  unfold fl
  rw [if_pos hp]
  simp [sg]
theorem g_zshift {A z : Int} {k : Nat} (hk : k ≤ 1048576) (h0 : -9223372036854775808 ≤ z) (h9 : z ≤ 9223372036854775807) : ∀ w u v, Zv A k u w → Is (.int .i64 z) v w → Calls Tryd.prog 21 #[u, v] w (Gives (TWO (ZN (sw A z)) (IS (.int .i64 (se z)))) w) := by
  rintro w u v ⟨s, p, n, c, xs, rfl, h, rfl, hn⟩ e
  obtain rfl : v = _ := e
  unfold sw se
  by_cases hl : 65536 < z ∨ z < -65536
  · rw [if_pos hl, if_pos hl]
    rcases hl with hl | hl
    · exact Gives.two (zsh_w0 w s p n c xs z h _ rfl (by omega) h0 h9 hl) zero_zn
    · exact Gives.two (zsh_w1 w s p n c xs z h _ rfl (by omega) h0 h9 hl) zero_zn
  · rw [if_neg hl, if_neg hl]
    by_cases hz : 0 ≤ z
    · rw [if_pos hz]
      have e : sg s (val xs) * 2 ^ z.toNat = sg s (val xs * 2 ^ z.toNat) := by cases s <;> simp [sg, Int.neg_mul]
      rw [e]
      exact zsh_w2 w s p n c xs z h _ rfl (by omega) h0 h9 hz (by omega)
    · rw [if_neg hz]
      by_cases hA : (sg s (val xs)).sign < 0
      · have hneg : sg s (val xs) < 0 := by
          apply Classical.byContradiction
          intro hc
          have := Int.sign_nonneg_iff.2 (show 0 ≤ sg s (val xs) by omega)
          omega
        obtain rfl : s = true := by
          cases s with
          | true => rfl
          | false => simp [sg] at hneg; omega
        have hx : 1 ≤ val xs := by simp [sg] at hneg; omega
        rw [← fl_two_neg hx]
        exact zsh_w3 w true p n c xs z h _ rfl (by omega) h0 h9 (by omega) (by omega) hA hx
      · have e : fl (sg s (val xs)) (2 ^ (-z).toNat) = sg false (val xs / 2 ^ (-z).toNat) := by
          rw [fl_two_pos]
          congr 1
          cases s with
          | false => rfl
          | true =>
            have h1 : val xs = 0 := by
              apply Classical.byContradiction
              intro hc
              exact hA (by rw [Int.sign_eq_neg_one_of_neg (by simp only [sg, if_true]; omega)]; decide)
            rw [h1]; rfl
        rw [e]
        exact zsh_w4 w s p n c xs z h _ rfl (by omega) h0 h9 (by omega) (by omega) (by omega)
end Go.Proofs.YtoplejeljmpcpaaDoor
