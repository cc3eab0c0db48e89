import Derived.Test.YtejhbjcgacblfaaSetE
import Derived.Test.YtejhbjcgacblfaaRTwo
import Derived.Test.YtejhbjcgacblfaaZSign
/-
  nat.Shr, nat.Pow; zint's powers and shifts, and the document's.
-/
namespace Go.Proofs.Ytejhbjcgacblfaa
open Go Go.RowKit Nt
set_option linter.unusedSimpArgs false
set_option linter.unusedVariables false


theorem nil_nv : ∀ v w, Is (.slice none 0 0) v w → Nv 0 0 v w := fun v w e => ⟨none, 0, 0, [], e, Sl.none w, rfl, Nat.le_refl _⟩
theorem bs_nv {k lo : Nat} : ∀ v w, BS k lo v w → Nv k 1 v w := fun v w h => nr_nv (val_one k) (Nat.le_refl _) v w (bs_nr v w h)
theorem up_list (K M : Nat) : (List.replicate (K + (digs M).length) 0).take K ++ digs M ++ (List.replicate (K + (digs M).length) 0).drop (K + (digs M).length) = List.replicate K 0 ++ digs M := by
  rw [List.drop_eq_nil_of_le (by simp), List.append_nil, List.take_replicate, Nat.min_eq_left (by omega)]
theorem up_ok {K M : Nat} : Ok ((List.replicate (K + (digs M).length) 0).take K ++ digs M ++ (List.replicate (K + (digs M).length) 0).drop (K + (digs M).length)) := by
  rw [up_list]
  intro x hx
  rcases List.mem_append.1 hx with h | h
  · have := (List.mem_replicate.1 h).2
    omega
  · exact ok_digs M x h
theorem up_digs {K M : Nat} (hM : M ≠ 0) : List.replicate K 0 ++ digs M = digs (M * 2 ^ (32 * K)) := by
  refine digs_eq ?_ ?_ ?_
  · rw [← up_list]; exact up_ok
  · right
    rcases top_digs M with h | h
    · exact absurd (by rw [← val_digs M, h]; rfl) hM
    · have hl : (digs M).length ≠ 0 := fun e => hM ((digs_length_zero M).1 e)
      rw [List.getD_eq_getElem?_getD] at h ⊢
      rw [List.length_append, List.length_replicate, List.getElem?_append_right (by rw [List.length_replicate]; omega), List.length_replicate, show K + (digs M).length - 1 - K = (digs M).length - 1 by omega]
      exact h
  · rw [val_append, val_replicate, List.length_replicate, val_digs, show (4294967296 : Nat) = 2 ^ 32 from rfl, ← Nat.pow_mul, Nat.zero_add, Nat.mul_comm]
theorem two_len {N : Nat} (h : N ≤ 65536) : (digs ((2 : Int) ^ N).natAbs).length ≤ 2049 := by
  rw [Int.natAbs_pow]
  have : (digs ((2 : Int).natAbs ^ N)).length ≤ N / 32 + 1 := by
    refine digs_length_le ?_
    rw [show (4294967296 : Nat) = 2 ^ 32 from rfl, ← Nat.pow_mul]
    exact Nat.pow_lt_pow_right (by decide) (by omega)
  omega
theorem ipow_len {A : Int} {n N : Nat} (h : (digs A.natAbs).length ≤ n) (hn : n ≤ 1048576) (hN : N ≤ 65536) : (digs (A ^ N).natAbs).length ≤ 68719476737 := by
  have key : ∀ k : Nat, (digs (A ^ k).natAbs).length ≤ k * n + 1 := by
    intro k
    induction k with
    | zero => rw [Int.pow_zero]; exact Nat.le_trans (dl_small (by decide)) (by omega)
    | succ k ih =>
      rw [Int.pow_succ]
      refine Nat.le_trans (dl_mul ih h) ?_
      rw [Nat.add_mul]
      omega
  have h2 : N * n ≤ 65536 * 1048576 := Nat.mul_le_mul hN hn
  have := key N
  omega
theorem digs_nx {p : Option Addr} {k c : Nat} {m j : Nat} (hj : k ≤ j) : ∀ v w, Nx p k c (digs m) v w → Nv m j v w := fun v w ⟨e, h⟩ => ⟨p, k, c, _, e, h, val_digs m, hj⟩

set_option maxHeartbeats 400000 in
theorem shr_w (w : World) (p : Option Addr) (n c : Nat) (xs : List Nat) (z : Int) (h : Sl w p n c xs) (hn : n ≤ 35184372088832) (hz : 0 ≤ z) (hz2 : z ≤ 9223372036854775807) :
    Calls Try.prog 27 #[.slice p n c, .int .i64 z] w (Gives (TWO (NN (val xs / 2 ^ z.toNat)) (IS (.int .i64 0))) w) := by
  have dx : (digs (val xs)).length ≤ n := h.dl
  refine calls_sta (sl := [(0, (Nx p n c xs)), (1, (Is (.int .i64 z)))]) Try.func27 rfl Try.ntmps27 (by simp) (args_cons rfl (nx_has h) (args_cons rfl (is_has _) args_nil)) ?_
  intro a0 S0
  refine wp_stmt_seq [.val (Is (.slice none 0 0)),
      .val (Is (.int .i64 0))] [] [.inl 0, .inl 1, .inr 0, .inr 1] follows S0 rfl (by kernel_rfl) ?_ ?_
  · refine ⟨⟨trivial, ?_⟩, ?_⟩
    · exact owe_move rfl (wants_all rfl) (Or.inr rfl) (opnd_const _) rfl
    · exact owe_move rfl (wants_all rfl) (Or.inr rfl) (opnd_const _) rfl
  intro B1 a1 W1 S1
  replace S1 : Sta w 12 [] [(4, (Is (.slice none 0 0))), (5, (Is (.int .i64 0))), (0, (Nx p n c xs)), (1, (Is (.int .i64 z)))] B1 a1 W1 := S1
  refine wp_seq ?_
  refine wp_stmt_seq [.val (Is (.int .i64 z)),
      .val (Is (.bool false))] [] [.inl 1, .inr 0, .inr 1, .inr 2, .inr 3] follows S1 rfl (by kernel_rfl) ?_ ?_
  · refine ⟨⟨trivial, ?_⟩, ?_⟩
    · exact owe_move rfl (wants_all rfl) (Or.inl rfl) (opnd_slot 3 1 rfl (by kernel_rfl)) rfl
    · exact owe_bin rfl (wants_all rfl) rfl (opnd_op 0 6 (by kernel_rfl) rfl) (opnd_const _) rfl (fun ρ w h1 h2 => by exact run_lss_int_f ρ _ _ _ w _ _ hz h1 h2)
  intro B2 a2 W2 S2
  replace S2 : Sta w 12 [] [(7, (Is (.bool false))), (4, (Is (.slice none 0 0))), (5, (Is (.int .i64 0))), (0, (Nx p n c xs)), (1, (Is (.int .i64 z)))] B2 a2 W2 := S2
  refine wp_cond_false (S2.bool 0 7 rfl) ?_
  refine wp_skip ?_
  refine thenN ?_
  refine wp_stmt_seq [.val (Nx p n c xs),
      .val (Nx p (digs (val xs)).length c (digs (val xs))),
      .val (Is (.int .i64 z)),
      .val ((NN (val xs / 2 ^ z.toNat)) w.heap.size),
      .val ((NN (val xs / 2 ^ z.toNat)) w.heap.size),
      .val (Is (.int .i64 0))] [] [.inl 4, .inl 5, .inr 0, .inr 4] follows S2 rfl (by kernel_rfl) ?_ ?_
  · refine ⟨⟨⟨⟨⟨⟨trivial, ?_⟩, ?_⟩, ?_⟩, ?_⟩, ?_⟩, ?_⟩
    · exact owe_move rfl (wants_all rfl) (Or.inl rfl) (opnd_slot 3 0 rfl (by kernel_rfl)) rfl
    · exact owe_callF1 rfl (wants_all rfl) rfl (opnd_op 0 8 (by kernel_rfl) rfl) rfl (fun args w => by go_simp) g_trim
    · exact owe_move rfl (wants_all rfl) (Or.inl rfl) (opnd_slot 4 1 rfl (by kernel_rfl)) rfl
    · exact owe_call2 rfl (wants_all rfl) rfl (opnd_op 1 9 (by kernel_rfl) rfl) (opnd_op 2 10 (by kernel_rfl) rfl) (fresh_nn _) rfl (fun args w => by go_simp) (fun w u v h1 h2 => g_down (z := z.toNat) (by omega) (by omega) w u v (digs_nx dx _ _ h1) (by rw [show ((z.toNat : Nat) : Int) = z from by omega]; exact h2))
    · exact owe_move rfl (wants_all rfl) (Or.inr rfl) (opnd_op 3 11 (by kernel_rfl) rfl) rfl
    · exact owe_move rfl (wants_all rfl) (Or.inr rfl) (opnd_const _) rfl
  intro B3 a3 W3 S3
  replace S3 : Sta w 12 [] [(4, ((NN (val xs / 2 ^ z.toNat)) w.heap.size)), (5, (Is (.int .i64 0))), (7, (Is (.bool false))), (1, (Is (.int .i64 z)))] B3 a3 W3 := S3
  refine wp_ret ?_
  exact end_two S3 rfl (res_tmp S3 0 4 rfl) (res_tmp S3 1 5 rfl)

set_option maxHeartbeats 400000 in
theorem pow_w0 (w : World) (p : Option Addr) (n c : Nat) (xs : List Nat) (z : Int) (h : Sl w p n c xs) (hn : n ≤ 1048576) (hz : z = 0) :
    Calls Try.prog 19 #[.slice p n c, .int .i64 z] w (Gives (TWO (BS 1) (IS (.int .i64 0))) w) := by
  have dx : (digs (val xs)).length ≤ n := h.dl
  refine calls_sta (sl := [(0, (Nx p n c xs)), (1, (Is (.int .i64 z)))]) Try.func19 rfl Try.ntmps19 (by simp) (args_cons rfl (nx_has h) (args_cons rfl (is_has _) args_nil)) ?_
  intro a0 S0
  refine wp_stmt_seq [.val (Is (.slice none 0 0)),
      .val (Is (.int .i64 0))] [] [.inl 0, .inl 1, .inr 0, .inr 1] follows S0 rfl (by kernel_rfl) ?_ ?_
  · refine ⟨⟨trivial, ?_⟩, ?_⟩
    · exact owe_move rfl (wants_all rfl) (Or.inr rfl) (opnd_const _) rfl
    · exact owe_move rfl (wants_all rfl) (Or.inr rfl) (opnd_const _) rfl
  intro B1 a1 W1 S1
  replace S1 : Sta w 27 [] [(4, (Is (.slice none 0 0))), (5, (Is (.int .i64 0))), (0, (Nx p n c xs)), (1, (Is (.int .i64 z)))] B1 a1 W1 := S1
  refine wp_seq ?_
  refine wp_stmt_seq [.val (Is (.int .i64 z)),
      .val (Is (.bool false))] [] [.inl 1, .inr 0, .inr 1, .inr 2, .inr 3] follows S1 rfl (by kernel_rfl) ?_ ?_
  · refine ⟨⟨trivial, ?_⟩, ?_⟩
    · exact owe_move rfl (wants_all rfl) (Or.inl rfl) (opnd_slot 3 1 rfl (by kernel_rfl)) rfl
    · exact owe_bin rfl (wants_all rfl) rfl (opnd_op 0 7 (by kernel_rfl) rfl) (opnd_const _) rfl (fun ρ w h1 h2 => by exact run_lss_int_f ρ _ _ _ w _ _ (by omega) h1 h2)
  intro B2 a2 W2 S2
  replace S2 : Sta w 27 [] [(8, (Is (.bool false))), (4, (Is (.slice none 0 0))), (5, (Is (.int .i64 0))), (0, (Nx p n c xs)), (1, (Is (.int .i64 z)))] B2 a2 W2 := S2
  refine wp_cond_false (S2.bool 0 8 rfl) ?_
  refine wp_skip ?_
  refine thenN ?_
  refine wp_stmt_seq [.val (Nx p n c xs),
      .val (Nx p (digs (val xs)).length c (digs (val xs))),
      .val (Nx p (digs (val xs)).length c (digs (val xs)))] [] [.inl 2, .inr 0, .inr 1, .inr 2, .inr 4] follows S2 rfl (by kernel_rfl) ?_ ?_
  · refine ⟨⟨⟨trivial, ?_⟩, ?_⟩, ?_⟩
    · exact owe_move rfl (wants_all rfl) (Or.inl rfl) (opnd_slot 3 0 rfl (by kernel_rfl)) rfl
    · exact owe_callF1 rfl (wants_all rfl) rfl (opnd_op 0 9 (by kernel_rfl) rfl) rfl (fun args w => by go_simp) g_trim
    · exact owe_move rfl (wants_all rfl) (Or.inr rfl) (opnd_op 1 10 (by kernel_rfl) rfl) rfl
  intro B3 a3 W3 S3
  replace S3 : Sta w 27 [] [(0, (Nx p (digs (val xs)).length c (digs (val xs)))), (8, (Is (.bool false))), (4, (Is (.slice none 0 0))), (5, (Is (.int .i64 0))), (1, (Is (.int .i64 z)))] B3 a3 W3 := S3
  refine wp_seq ?_
  refine wp_stmt_seq [.val (Is (.int .i64 z)),
      .val (Is (.bool true))] [] [.inl 1, .inr 0, .inr 1, .inr 2, .inr 3, .inr 4] follows S3 rfl (by kernel_rfl) ?_ ?_
  · refine ⟨⟨trivial, ?_⟩, ?_⟩
    · exact owe_move rfl (wants_all rfl) (Or.inl rfl) (opnd_slot 4 1 rfl (by kernel_rfl)) rfl
    · exact owe_bin rfl (wants_all rfl) rfl (opnd_op 0 11 (by kernel_rfl) rfl) (opnd_const _) rfl (fun ρ w h1 h2 => by exact run_eql_int_t ρ _ _ _ w _ _ hz h1 h2)
  intro B4 a4 W4 S4
  replace S4 : Sta w 27 [] [(12, (Is (.bool true))), (0, (Nx p (digs (val xs)).length c (digs (val xs)))), (8, (Is (.bool false))), (4, (Is (.slice none 0 0))), (5, (Is (.int .i64 0))), (1, (Is (.int .i64 z)))] B4 a4 W4 := S4
  refine wp_cond_true (S4.bool 0 12 rfl) ?_
  refine wp_stmt_seq [.val ((BS 1) w.heap.size),
      .val ((BS 1) w.heap.size),
      .val (Is (.int .i64 0))] [] [.inl 1, .inl 2, .inr 0, .inr 1, .inr 2, .inr 5] follows S4 rfl (by kernel_rfl) ?_ ?_
  · refine ⟨⟨⟨trivial, ?_⟩, ?_⟩, ?_⟩
    · exact owe_bs rfl (wants_all rfl) rfl (opnd_const _) (by decide) rfl
    · exact owe_move rfl (wants_all rfl) (Or.inr rfl) (opnd_op 0 13 (by kernel_rfl) rfl) rfl
    · exact owe_move rfl (wants_all rfl) (Or.inr rfl) (opnd_const _) rfl
  intro B5 a5 W5 S5
  replace S5 : Sta w 27 [] [(4, ((BS 1) w.heap.size)), (5, (Is (.int .i64 0))), (12, (Is (.bool true))), (0, (Nx p (digs (val xs)).length c (digs (val xs)))), (8, (Is (.bool false))), (1, (Is (.int .i64 z)))] B5 a5 W5 := S5
  refine wp_ret ?_
  refine thenR ?_
  exact end_two S5 rfl (res_tmp S5 0 4 rfl) (res_tmp S5 1 5 rfl)

set_option maxHeartbeats 400000 in
theorem pow_w1 (w : World) (p : Option Addr) (n c : Nat) (xs : List Nat) (z : Int) (h : Sl w p n c xs) (hn : n ≤ 1048576) (hz : 0 < z) (hb : ((Go.bitLen (val xs) : Nat) : Int) ≤ 1) :
    Calls Try.prog 19 #[.slice p n c, .int .i64 z] w (Gives (TWO (NN (val xs)) (IS (.int .i64 0))) w) := by
  have dx : (digs (val xs)).length ≤ n := h.dl
  refine calls_sta (sl := [(0, (Nx p n c xs)), (1, (Is (.int .i64 z)))]) Try.func19 rfl Try.ntmps19 (by simp) (args_cons rfl (nx_has h) (args_cons rfl (is_has _) args_nil)) ?_
  intro a0 S0
  refine wp_stmt_seq [.val (Is (.slice none 0 0)),
      .val (Is (.int .i64 0))] [] [.inl 0, .inl 1, .inr 0, .inr 1] follows S0 rfl (by kernel_rfl) ?_ ?_
  · refine ⟨⟨trivial, ?_⟩, ?_⟩
    · exact owe_move rfl (wants_all rfl) (Or.inr rfl) (opnd_const _) rfl
    · exact owe_move rfl (wants_all rfl) (Or.inr rfl) (opnd_const _) rfl
  intro B1 a1 W1 S1
  replace S1 : Sta w 27 [] [(4, (Is (.slice none 0 0))), (5, (Is (.int .i64 0))), (0, (Nx p n c xs)), (1, (Is (.int .i64 z)))] B1 a1 W1 := S1
  refine wp_seq ?_
  refine wp_stmt_seq [.val (Is (.int .i64 z)),
      .val (Is (.bool false))] [] [.inl 1, .inr 0, .inr 1, .inr 2, .inr 3] follows S1 rfl (by kernel_rfl) ?_ ?_
  · refine ⟨⟨trivial, ?_⟩, ?_⟩
    · exact owe_move rfl (wants_all rfl) (Or.inl rfl) (opnd_slot 3 1 rfl (by kernel_rfl)) rfl
    · exact owe_bin rfl (wants_all rfl) rfl (opnd_op 0 7 (by kernel_rfl) rfl) (opnd_const _) rfl (fun ρ w h1 h2 => by exact run_lss_int_f ρ _ _ _ w _ _ (by omega) h1 h2)
  intro B2 a2 W2 S2
  replace S2 : Sta w 27 [] [(8, (Is (.bool false))), (4, (Is (.slice none 0 0))), (5, (Is (.int .i64 0))), (0, (Nx p n c xs)), (1, (Is (.int .i64 z)))] B2 a2 W2 := S2
  refine wp_cond_false (S2.bool 0 8 rfl) ?_
  refine wp_skip ?_
  refine thenN ?_
  refine wp_stmt_seq [.val (Nx p n c xs),
      .val (Nx p (digs (val xs)).length c (digs (val xs))),
      .val (Nx p (digs (val xs)).length c (digs (val xs)))] [] [.inl 2, .inr 0, .inr 1, .inr 2, .inr 4] follows S2 rfl (by kernel_rfl) ?_ ?_
  · refine ⟨⟨⟨trivial, ?_⟩, ?_⟩, ?_⟩
    · exact owe_move rfl (wants_all rfl) (Or.inl rfl) (opnd_slot 3 0 rfl (by kernel_rfl)) rfl
    · exact owe_callF1 rfl (wants_all rfl) rfl (opnd_op 0 9 (by kernel_rfl) rfl) rfl (fun args w => by go_simp) g_trim
    · exact owe_move rfl (wants_all rfl) (Or.inr rfl) (opnd_op 1 10 (by kernel_rfl) rfl) rfl
  intro B3 a3 W3 S3
  replace S3 : Sta w 27 [] [(0, (Nx p (digs (val xs)).length c (digs (val xs)))), (8, (Is (.bool false))), (4, (Is (.slice none 0 0))), (5, (Is (.int .i64 0))), (1, (Is (.int .i64 z)))] B3 a3 W3 := S3
  refine wp_seq ?_
  refine wp_stmt_seq [.val (Is (.int .i64 z)),
      .val (Is (.bool false))] [] [.inl 1, .inr 0, .inr 1, .inr 2, .inr 3, .inr 4] follows S3 rfl (by kernel_rfl) ?_ ?_
  · refine ⟨⟨trivial, ?_⟩, ?_⟩
    · exact owe_move rfl (wants_all rfl) (Or.inl rfl) (opnd_slot 4 1 rfl (by kernel_rfl)) rfl
    · exact owe_bin rfl (wants_all rfl) rfl (opnd_op 0 11 (by kernel_rfl) rfl) (opnd_const _) rfl (fun ρ w h1 h2 => by exact run_eql_int_f ρ _ _ _ w _ _ (by omega) h1 h2)
  intro B4 a4 W4 S4
  replace S4 : Sta w 27 [] [(12, (Is (.bool false))), (0, (Nx p (digs (val xs)).length c (digs (val xs)))), (8, (Is (.bool false))), (4, (Is (.slice none 0 0))), (5, (Is (.int .i64 0))), (1, (Is (.int .i64 z)))] B4 a4 W4 := S4
  refine wp_cond_false (S4.bool 0 12 rfl) ?_
  refine wp_skip ?_
  refine thenN ?_
  refine wp_stmt_seq [.val (Nx p (digs (val xs)).length c (digs (val xs))),
      .val (Is (.int .i64 (Go.bitLen (val xs) : Nat))),
      .val (Is (.int .i64 (Go.bitLen (val xs) : Nat)))] [] [.inl 2, .inr 0, .inr 1, .inr 2, .inr 3, .inr 4, .inr 5] follows S4 rfl (by kernel_rfl) ?_ ?_
  · refine ⟨⟨⟨trivial, ?_⟩, ?_⟩, ?_⟩
    · exact owe_move rfl (wants_all rfl) (Or.inl rfl) (opnd_slot 1 0 rfl (by kernel_rfl)) rfl
    · exact owe_call1 rfl (wants_all rfl) rfl (opnd_op 0 14 (by kernel_rfl) rfl) (fresh_is _) rfl (fun args w => by go_simp) (fun w u h1 => g_bits (by omega) w u (digs_nx dx _ _ h1))
    · exact owe_move rfl (wants_all rfl) (Or.inr rfl) (opnd_op 1 15 (by kernel_rfl) rfl) rfl
  intro B5 a5 W5 S5
  replace S5 : Sta w 27 [] [(6, (Is (.int .i64 (Go.bitLen (val xs) : Nat)))), (12, (Is (.bool false))), (0, (Nx p (digs (val xs)).length c (digs (val xs)))), (8, (Is (.bool false))), (4, (Is (.slice none 0 0))), (5, (Is (.int .i64 0))), (1, (Is (.int .i64 z)))] B5 a5 W5 := S5
  refine wp_seq ?_
  refine wp_stmt_seq [.val (Is (.int .i64 (Go.bitLen (val xs) : Nat))),
      .val (Is (.bool true))] [] [.inl 1, .inr 0, .inr 1, .inr 2, .inr 3, .inr 4, .inr 5, .inr 6] follows S5 rfl (by kernel_rfl) ?_ ?_
  · refine ⟨⟨trivial, ?_⟩, ?_⟩
    · exact owe_move rfl (wants_all rfl) (Or.inl rfl) (opnd_slot 0 6 rfl (by kernel_rfl)) rfl
    · exact owe_bin rfl (wants_all rfl) rfl (opnd_op 0 16 (by kernel_rfl) rfl) (opnd_const _) rfl (fun ρ w h1 h2 => by exact run_leq_int_t ρ _ _ _ w _ _ hb h1 h2)
  intro B6 a6 W6 S6
  replace S6 : Sta w 27 [] [(17, (Is (.bool true))), (6, (Is (.int .i64 (Go.bitLen (val xs) : Nat)))), (12, (Is (.bool false))), (0, (Nx p (digs (val xs)).length c (digs (val xs)))), (8, (Is (.bool false))), (4, (Is (.slice none 0 0))), (5, (Is (.int .i64 0))), (1, (Is (.int .i64 z)))] B6 a6 W6 := S6
  refine wp_cond_true (S6.bool 0 17 rfl) ?_
  refine wp_stmt_seq [.val (Nx p (digs (val xs)).length c (digs (val xs))),
      .val ((NN (val xs)) w.heap.size),
      .val ((NN (val xs)) w.heap.size),
      .val (Is (.int .i64 0))] [] [.inl 2, .inl 3, .inr 0, .inr 1, .inr 2, .inr 3, .inr 4, .inr 7] follows S6 rfl (by kernel_rfl) ?_ ?_
  · refine ⟨⟨⟨⟨trivial, ?_⟩, ?_⟩, ?_⟩, ?_⟩
    · exact owe_move rfl (wants_all rfl) (Or.inl rfl) (opnd_slot 3 0 rfl (by kernel_rfl)) rfl
    · exact owe_call1 rfl (wants_all rfl) rfl (opnd_op 0 18 (by kernel_rfl) rfl) (fresh_nn _) rfl (fun args w => by go_simp) (fun w u h1 => g_norm (k := n) (by omega) w u (digs_nx dx _ _ h1))
    · exact owe_move rfl (wants_all rfl) (Or.inr rfl) (opnd_op 1 19 (by kernel_rfl) rfl) rfl
    · exact owe_move rfl (wants_all rfl) (Or.inr rfl) (opnd_const _) rfl
  intro B7 a7 W7 S7
  replace S7 : Sta w 27 [] [(4, ((NN (val xs)) w.heap.size)), (5, (Is (.int .i64 0))), (17, (Is (.bool true))), (6, (Is (.int .i64 (Go.bitLen (val xs) : Nat)))), (12, (Is (.bool false))), (0, (Nx p (digs (val xs)).length c (digs (val xs)))), (8, (Is (.bool false))), (1, (Is (.int .i64 z)))] B7 a7 W7 := S7
  refine wp_ret ?_
  refine thenR ?_
  exact end_two S7 rfl (res_tmp S7 0 4 rfl) (res_tmp S7 1 5 rfl)

set_option maxHeartbeats 400000 in
theorem pow_w2 (w : World) (p : Option Addr) (n c : Nat) (xs : List Nat) (z : Int) (h : Sl w p n c xs) (hn : n ≤ 1048576) (hz : 0 < z) (hb1 : (1 : Int) < ((Go.bitLen (val xs) : Nat) : Int)) (hz1 : z.toNat ≤ 1048576) (hb : Go.bitLen (val xs) * z.toNat ≤ 1048576) (hq : z ≤ 1048576 / ((Go.bitLen (val xs) : Nat) : Int)) :
    Calls Try.prog 19 #[.slice p n c, .int .i64 z] w (Gives (TWO (NN (val xs ^ z.toNat)) (IS (.int .i64 0))) w) := by
  have dx : (digs (val xs)).length ≤ n := h.dl
  refine calls_sta (sl := [(0, (Nx p n c xs)), (1, (Is (.int .i64 z)))]) Try.func19 rfl Try.ntmps19 (by simp) (args_cons rfl (nx_has h) (args_cons rfl (is_has _) args_nil)) ?_
  intro a0 S0
  refine wp_stmt_seq [.val (Is (.slice none 0 0)),
      .val (Is (.int .i64 0))] [] [.inl 0, .inl 1, .inr 0, .inr 1] follows S0 rfl (by kernel_rfl) ?_ ?_
  · refine ⟨⟨trivial, ?_⟩, ?_⟩
    · exact owe_move rfl (wants_all rfl) (Or.inr rfl) (opnd_const _) rfl
    · exact owe_move rfl (wants_all rfl) (Or.inr rfl) (opnd_const _) rfl
  intro B1 a1 W1 S1
  replace S1 : Sta w 27 [] [(4, (Is (.slice none 0 0))), (5, (Is (.int .i64 0))), (0, (Nx p n c xs)), (1, (Is (.int .i64 z)))] B1 a1 W1 := S1
  refine wp_seq ?_
  refine wp_stmt_seq [.val (Is (.int .i64 z)),
      .val (Is (.bool false))] [] [.inl 1, .inr 0, .inr 1, .inr 2, .inr 3] follows S1 rfl (by kernel_rfl) ?_ ?_
  · refine ⟨⟨trivial, ?_⟩, ?_⟩
    · exact owe_move rfl (wants_all rfl) (Or.inl rfl) (opnd_slot 3 1 rfl (by kernel_rfl)) rfl
    · exact owe_bin rfl (wants_all rfl) rfl (opnd_op 0 7 (by kernel_rfl) rfl) (opnd_const _) rfl (fun ρ w h1 h2 => by exact run_lss_int_f ρ _ _ _ w _ _ (by omega) h1 h2)
  intro B2 a2 W2 S2
  replace S2 : Sta w 27 [] [(8, (Is (.bool false))), (4, (Is (.slice none 0 0))), (5, (Is (.int .i64 0))), (0, (Nx p n c xs)), (1, (Is (.int .i64 z)))] B2 a2 W2 := S2
  refine wp_cond_false (S2.bool 0 8 rfl) ?_
  refine wp_skip ?_
  refine thenN ?_
  refine wp_stmt_seq [.val (Nx p n c xs),
      .val (Nx p (digs (val xs)).length c (digs (val xs))),
      .val (Nx p (digs (val xs)).length c (digs (val xs)))] [] [.inl 2, .inr 0, .inr 1, .inr 2, .inr 4] follows S2 rfl (by kernel_rfl) ?_ ?_
  · refine ⟨⟨⟨trivial, ?_⟩, ?_⟩, ?_⟩
    · exact owe_move rfl (wants_all rfl) (Or.inl rfl) (opnd_slot 3 0 rfl (by kernel_rfl)) rfl
    · exact owe_callF1 rfl (wants_all rfl) rfl (opnd_op 0 9 (by kernel_rfl) rfl) rfl (fun args w => by go_simp) g_trim
    · exact owe_move rfl (wants_all rfl) (Or.inr rfl) (opnd_op 1 10 (by kernel_rfl) rfl) rfl
  intro B3 a3 W3 S3
  replace S3 : Sta w 27 [] [(0, (Nx p (digs (val xs)).length c (digs (val xs)))), (8, (Is (.bool false))), (4, (Is (.slice none 0 0))), (5, (Is (.int .i64 0))), (1, (Is (.int .i64 z)))] B3 a3 W3 := S3
  refine wp_seq ?_
  refine wp_stmt_seq [.val (Is (.int .i64 z)),
      .val (Is (.bool false))] [] [.inl 1, .inr 0, .inr 1, .inr 2, .inr 3, .inr 4] follows S3 rfl (by kernel_rfl) ?_ ?_
  · refine ⟨⟨trivial, ?_⟩, ?_⟩
    · exact owe_move rfl (wants_all rfl) (Or.inl rfl) (opnd_slot 4 1 rfl (by kernel_rfl)) rfl
    · exact owe_bin rfl (wants_all rfl) rfl (opnd_op 0 11 (by kernel_rfl) rfl) (opnd_const _) rfl (fun ρ w h1 h2 => by exact run_eql_int_f ρ _ _ _ w _ _ (by omega) h1 h2)
  intro B4 a4 W4 S4
  replace S4 : Sta w 27 [] [(12, (Is (.bool false))), (0, (Nx p (digs (val xs)).length c (digs (val xs)))), (8, (Is (.bool false))), (4, (Is (.slice none 0 0))), (5, (Is (.int .i64 0))), (1, (Is (.int .i64 z)))] B4 a4 W4 := S4
  refine wp_cond_false (S4.bool 0 12 rfl) ?_
  refine wp_skip ?_
  refine thenN ?_
  refine wp_stmt_seq [.val (Nx p (digs (val xs)).length c (digs (val xs))),
      .val (Is (.int .i64 (Go.bitLen (val xs) : Nat))),
      .val (Is (.int .i64 (Go.bitLen (val xs) : Nat)))] [] [.inl 2, .inr 0, .inr 1, .inr 2, .inr 3, .inr 4, .inr 5] follows S4 rfl (by kernel_rfl) ?_ ?_
  · refine ⟨⟨⟨trivial, ?_⟩, ?_⟩, ?_⟩
    · exact owe_move rfl (wants_all rfl) (Or.inl rfl) (opnd_slot 1 0 rfl (by kernel_rfl)) rfl
    · exact owe_call1 rfl (wants_all rfl) rfl (opnd_op 0 14 (by kernel_rfl) rfl) (fresh_is _) rfl (fun args w => by go_simp) (fun w u h1 => g_bits (by omega) w u (digs_nx dx _ _ h1))
    · exact owe_move rfl (wants_all rfl) (Or.inr rfl) (opnd_op 1 15 (by kernel_rfl) rfl) rfl
  intro B5 a5 W5 S5
  replace S5 : Sta w 27 [] [(6, (Is (.int .i64 (Go.bitLen (val xs) : Nat)))), (12, (Is (.bool false))), (0, (Nx p (digs (val xs)).length c (digs (val xs)))), (8, (Is (.bool false))), (4, (Is (.slice none 0 0))), (5, (Is (.int .i64 0))), (1, (Is (.int .i64 z)))] B5 a5 W5 := S5
  refine wp_seq ?_
  refine wp_stmt_seq [.val (Is (.int .i64 (Go.bitLen (val xs) : Nat))),
      .val (Is (.bool false))] [] [.inl 1, .inr 0, .inr 1, .inr 2, .inr 3, .inr 4, .inr 5, .inr 6] follows S5 rfl (by kernel_rfl) ?_ ?_
  · refine ⟨⟨trivial, ?_⟩, ?_⟩
    · exact owe_move rfl (wants_all rfl) (Or.inl rfl) (opnd_slot 0 6 rfl (by kernel_rfl)) rfl
    · exact owe_bin rfl (wants_all rfl) rfl (opnd_op 0 16 (by kernel_rfl) rfl) (opnd_const _) rfl (fun ρ w h1 h2 => by exact run_leq_int_f ρ _ _ _ w _ _ hb1 h1 h2)
  intro B6 a6 W6 S6
  replace S6 : Sta w 27 [] [(17, (Is (.bool false))), (6, (Is (.int .i64 (Go.bitLen (val xs) : Nat)))), (12, (Is (.bool false))), (0, (Nx p (digs (val xs)).length c (digs (val xs)))), (8, (Is (.bool false))), (4, (Is (.slice none 0 0))), (5, (Is (.int .i64 0))), (1, (Is (.int .i64 z)))] B6 a6 W6 := S6
  refine wp_cond_false (S6.bool 0 17 rfl) ?_
  refine wp_skip ?_
  refine thenN ?_
  refine wp_seq ?_
  refine wp_stmt_seq [.val (Is (.int .i64 z)),
      .val (Is (.int .i64 (Go.bitLen (val xs) : Nat))),
      .val (Is (.int .i64 (1048576 / ((Go.bitLen (val xs) : Nat) : Int)))),
      .val (Is (.bool false))] [] [.inl 3, .inr 0, .inr 1, .inr 2, .inr 3, .inr 4, .inr 5, .inr 6, .inr 7] follows S6 rfl (by kernel_rfl) ?_ ?_
  · refine ⟨⟨⟨⟨trivial, ?_⟩, ?_⟩, ?_⟩, ?_⟩
    · exact owe_move rfl (wants_all rfl) (Or.inl rfl) (opnd_slot 7 1 rfl (by kernel_rfl)) rfl
    · exact owe_move rfl (wants_all rfl) (Or.inl rfl) (opnd_slot 1 6 rfl (by kernel_rfl)) rfl
    · exact owe_bin rfl (wants_all rfl) rfl (opnd_const _) (opnd_op 1 21 (by kernel_rfl) rfl) rfl (fun ρ w h1 h2 => by exact run_quo_int ρ _ _ _ w _ _ _ ⟨rfl, by omega, by omega, by omega⟩ h1 h2)
    · exact owe_bin rfl (wants_all rfl) rfl (opnd_op 0 20 (by kernel_rfl) rfl) (opnd_op 2 22 (by kernel_rfl) rfl) rfl (fun ρ w h1 h2 => by exact run_gtr_int_f ρ _ _ _ w _ _ hq h1 h2)
  intro B7 a7 W7 S7
  replace S7 : Sta w 27 [] [(23, (Is (.bool false))), (17, (Is (.bool false))), (6, (Is (.int .i64 (Go.bitLen (val xs) : Nat)))), (12, (Is (.bool false))), (0, (Nx p (digs (val xs)).length c (digs (val xs)))), (8, (Is (.bool false))), (4, (Is (.slice none 0 0))), (5, (Is (.int .i64 0))), (1, (Is (.int .i64 z)))] B7 a7 W7 := S7
  refine wp_cond_false (S7.bool 0 23 rfl) ?_
  refine wp_skip ?_
  refine thenN ?_
  refine wp_stmt_seq [.val (Nx p (digs (val xs)).length c (digs (val xs))),
      .val (Is (.int .i64 z)),
      .val ((NN (val xs ^ z.toNat)) w.heap.size),
      .val ((NN (val xs ^ z.toNat)) w.heap.size),
      .val (Is (.int .i64 0))] [] [.inl 3, .inl 4, .inr 0, .inr 1, .inr 2, .inr 3, .inr 4, .inr 5, .inr 8] follows S7 rfl (by kernel_rfl) ?_ ?_
  · refine ⟨⟨⟨⟨⟨trivial, ?_⟩, ?_⟩, ?_⟩, ?_⟩, ?_⟩
    · exact owe_move rfl (wants_all rfl) (Or.inl rfl) (opnd_slot 4 0 rfl (by kernel_rfl)) rfl
    · exact owe_move rfl (wants_all rfl) (Or.inl rfl) (opnd_slot 8 1 rfl (by kernel_rfl)) rfl
    · exact owe_call2 rfl (wants_all rfl) rfl (opnd_op 0 24 (by kernel_rfl) rfl) (opnd_op 1 25 (by kernel_rfl) rfl) (fresh_nn _) rfl (fun args w => by go_simp) (fun w u v h1 h2 => g_power (k := n) (z := z.toNat) (by omega) (by omega) (by omega) hb w u v (digs_nx dx _ _ h1) (by rw [show ((z.toNat : Nat) : Int) = z from by omega]; exact h2))
    · exact owe_move rfl (wants_all rfl) (Or.inr rfl) (opnd_op 2 26 (by kernel_rfl) rfl) rfl
    · exact owe_move rfl (wants_all rfl) (Or.inr rfl) (opnd_const _) rfl
  intro B8 a8 W8 S8
  replace S8 : Sta w 27 [] [(4, ((NN (val xs ^ z.toNat)) w.heap.size)), (5, (Is (.int .i64 0))), (23, (Is (.bool false))), (17, (Is (.bool false))), (6, (Is (.int .i64 (Go.bitLen (val xs) : Nat)))), (12, (Is (.bool false))), (0, (Nx p (digs (val xs)).length c (digs (val xs)))), (8, (Is (.bool false))), (1, (Is (.int .i64 z)))] B8 a8 W8 := S8
  refine wp_ret ?_
  exact end_two S8 rfl (res_tmp S8 0 4 rfl) (res_tmp S8 1 5 rfl)


theorem nn_one {lo : Nat} : ∀ v w, BS 1 lo v w → NN 1 lo v w := fun v w h => by
  obtain ⟨r, c, e, h1, h2⟩ := bs_nr v w h
  have e1 : digs 1 = [1] := rfl
  exact ⟨r, c, by rw [e1]; exact e, by rw [e1]; exact h1, h2⟩
theorem Gives.two {φ φ' ψ : Nat → Pr} {w : World} {f : FuncId} {args : Array Value} (h : Calls Try.prog f args w (Gives (TWO φ ψ) w)) (k : ∀ v w', φ w.heap.size v w' → φ' w.heap.size v w') : Calls Try.prog f args w (Gives (TWO φ' ψ) w) := by
  refine h.mono ?_
  rintro e w' ⟨v, rfl, hb, x, y, rfl, h1, h2⟩
  exact ⟨_, rfl, hb, x, y, rfl, k _ _ h1, h2⟩
theorem zero_zn {lo : Nat} : ∀ v w, IS (.agg #[.bool false, .slice none 0 0]) lo v w → ZN 0 lo v w := fun v w e => ⟨none, 0, e, Sl.none w, fun b o h => nomatch h⟩
theorem zero_nn {lo : Nat} : ∀ v w, IS (.slice none 0 0) lo v w → NN 0 lo v w := fun v w e => ⟨none, 0, e, Sl.none w, fun b o h => nomatch h⟩
theorem g_shr {x k : Nat} {z : Int} (hk : k ≤ 35184372088832) (hz : 0 ≤ z) (hz2 : z ≤ 9223372036854775807) : ∀ w u v, Nv x k u w → Is (.int .i64 z) v w → Calls Try.prog 27 #[u, v] w (Gives (TWO (NN (x / 2 ^ z.toNat)) (IS (.int .i64 0))) w) := by
  rintro w u v ⟨p, n, c, xs, rfl, h, rfl, hn⟩ e
  obtain rfl : v = _ := e
  exact shr_w w p n c xs z h (by omega) hz hz2
theorem g_pow {x k : Nat} {z : Int} (hk : k ≤ 1048576) (hz : 0 ≤ z) (hb : z = 0 ∨ Go.bitLen x ≤ 1 ∨ (z ≤ 1048576 / ((Go.bitLen x : Nat) : Int))) : ∀ w u v, Nv x k u w → Is (.int .i64 z) v w → Calls Try.prog 19 #[u, v] w (Gives (TWO (NN (x ^ z.toNat)) (IS (.int .i64 0))) w) := by
  rintro w u v ⟨p, n, c, xs, rfl, h, rfl, hn⟩ e
  obtain rfl : v = _ := e
  by_cases h0 : z = 0
  · rw [h0]
    exact Gives.two (pow_w0 w p n c xs 0 h (by omega) rfl) nn_one
  · by_cases h1 : Go.bitLen (val xs) ≤ 1
    · have h2 := bl_le_one.1 h1
      have h3 : val xs ^ z.toNat = val xs := by
        rcases (by omega : val xs = 0 ∨ val xs = 1) with e | e
        · rw [e]; exact Nat.zero_pow (by omega)
        · rw [e]; exact Nat.one_pow _
      rw [h3]
      exact pow_w1 w p n c xs z h (by omega) (by omega) (by omega)
    · have hq : z ≤ 1048576 / ((Go.bitLen (val xs) : Nat) : Int) := by
        rcases hb with hb | hb | hb
        · exact absurd hb h0
        · exact absurd hb h1
        · exact hb
      have h5 : z * ((Go.bitLen (val xs) : Nat) : Int) ≤ 1048576 := (Int.le_ediv_iff_mul_le (by omega)).1 hq
      obtain ⟨b, hb'⟩ : ∃ b, Go.bitLen (val xs) = b := ⟨_, rfl⟩
      obtain ⟨Z, rfl⟩ : ∃ Z : Nat, z = (Z : Int) := ⟨z.toNat, by omega⟩
      rw [hb', ← Int.natCast_mul] at h5
      have h6 : b * Z ≤ 1048576 := by rw [Nat.mul_comm]; omega
      have h7 : Z ≤ b * Z := Nat.le_mul_of_pos_left Z (by omega)
      exact pow_w2 w p n c xs Z h (by omega) (by omega) (by omega) (by rw [Int.toNat_natCast]; omega) (by rw [hb', Int.toNat_natCast]; exact h6) hq
theorem g_zsign {A : Int} {k : Nat} (hk : k ≤ 70368744177664) : ∀ w u, Zv A k u w → Calls Try.prog 25 #[u] w (Gives (IS (.int .i64 A.sign)) w) := by
  rintro w u ⟨s, p, n, c, xs, rfl, h, rfl, hn⟩
  refine (zsign_c w s p n c xs h (by omega)).mono ?_
  rintro e w' ⟨rfl, hb⟩
  exact ⟨_, rfl, hb, rfl⟩

set_option maxHeartbeats 400000 in
theorem zbits_w (w : World) (s : Bool) (p : Option Addr) (n c : Nat) (xs : List Nat) (h : Sl w p n c xs) (hn : n ≤ 1048576) :
    Calls Try.prog 18 #[.agg #[.bool s, .slice p n c]] w (Gives (IS (.int .i64 (Go.bitLen (val xs) : Nat))) w) := by
  refine calls_sta (sl := [(0, (Zx s p n c xs))]) Try.func18 rfl Try.ntmps18 (by simp) (args_cons rfl (zx_has h) args_nil) ?_
  intro a0 S0
  refine wp_stmt_seq [.new (.box 24 (Zx s p n c xs)),
      .val (Is (.int .i64 0))] [.inl 0] [.inl 1] follows S0 rfl (by kernel_rfl) ?_ ?_
  · refine ⟨⟨trivial, ?_⟩, ?_⟩
    · exact owe_box rfl (wants_all rfl) rfl (opnd_slot 0 0 rfl (by kernel_rfl)) rfl (fun ρ w h => box_int shp_zx ρ _ _ w h)
    · exact owe_move rfl (wants_all rfl) (Or.inr rfl) (opnd_const _) rfl
  intro B1 a1 W1 S1
  replace S1 : Sta w 6 [(1, (.box 24 (Zx s p n c xs)))] [(2, (Is (.int .i64 0)))] B1 a1 W1 := S1
  refine wp_stmt_seq [.val (Part a1 1 1),
      .val (Nx p n c xs),
      .val (Is (.int .i64 (Go.bitLen (val xs) : Nat))),
      .val (Is (.int .i64 (Go.bitLen (val xs) : Nat)))] [.inr 0] [.inl 3] follows S1 rfl (by kernel_rfl) ?_ ?_
  · refine ⟨⟨⟨⟨trivial, ?_⟩, ?_⟩, ?_⟩, ?_⟩
    · exact owe_part rfl (wants_all rfl) rfl (k := 0) rfl (by kernel_rfl) rfl (fun ρ w b h => part_int1 ρ _ _ w b 0 h)
    · exact owe_pload rfl (wants_all rfl) rfl (opnd_op 0 3 (by kernel_rfl) rfl) (k := 0) rfl (by kernel_rfl) rfl (fun ρ w b u h1 h2 h3 => pload_mag zx_mag ρ _ _ w b u h1 h2 h3)
    · exact owe_call1 rfl (wants_all rfl) rfl (opnd_op 1 4 (by kernel_rfl) rfl) (fresh_is _) rfl (fun args w => by go_simp) (fun w u h1 => g_bits (by omega) w u ((nx_nv (Nat.le_refl _)) _ _ h1))
    · exact owe_move rfl (wants_all rfl) (Or.inr rfl) (opnd_op 2 5 (by kernel_rfl) rfl) rfl
  intro B2 a2 W2 S2
  replace S2 : Sta w 6 [(1, (.box 24 (Zx s p n c xs)))] [(2, (Is (.int .i64 (Go.bitLen (val xs) : Nat))))] B2 a2 W2 := S2
  refine wp_ret ?_
  exact end_one S2 rfl (res_tmp S2 0 2 rfl)

set_option maxHeartbeats 400000 in
theorem rbits_w (w : World) (s : Bool) (p : Option Addr) (n c : Nat) (xs : List Nat) (h : Sl w p n c xs) (hn : n ≤ 1048576) :
    Calls Try.prog 21 #[.agg #[.bool s, .slice p n c]] w (Gives (IS (.int .i64 (Go.bitLen (val xs) : Nat))) w) := by
  refine calls_sta (sl := [(0, (Zx s p n c xs))]) Try.func21 rfl Try.ntmps21 (by simp) (args_cons rfl (zx_has h) args_nil) ?_
  intro a0 S0
  refine wp_stmt_seq [.new (.box 24 (Zx s p n c xs)),
      .val (Is (.int .i64 0))] [.inl 0] [.inl 1] follows S0 rfl (by kernel_rfl) ?_ ?_
  · refine ⟨⟨trivial, ?_⟩, ?_⟩
    · exact owe_box rfl (wants_all rfl) rfl (opnd_slot 0 0 rfl (by kernel_rfl)) rfl (fun ρ w h => box_int shp_zx ρ _ _ w h)
    · exact owe_move rfl (wants_all rfl) (Or.inr rfl) (opnd_const _) rfl
  intro B1 a1 W1 S1
  replace S1 : Sta w 6 [(1, (.box 24 (Zx s p n c xs)))] [(2, (Is (.int .i64 0)))] B1 a1 W1 := S1
  refine wp_stmt_seq [.val (Part a1 1 1),
      .val (Nx p n c xs),
      .val (Is (.int .i64 (Go.bitLen (val xs) : Nat))),
      .val (Is (.int .i64 (Go.bitLen (val xs) : Nat)))] [.inr 0] [.inl 3] follows S1 rfl (by kernel_rfl) ?_ ?_
  · refine ⟨⟨⟨⟨trivial, ?_⟩, ?_⟩, ?_⟩, ?_⟩
    · exact owe_part rfl (wants_all rfl) rfl (k := 0) rfl (by kernel_rfl) rfl (fun ρ w b h => part_int1 ρ _ _ w b 0 h)
    · exact owe_pload rfl (wants_all rfl) rfl (opnd_op 0 3 (by kernel_rfl) rfl) (k := 0) rfl (by kernel_rfl) rfl (fun ρ w b u h1 h2 h3 => pload_mag zx_mag ρ _ _ w b u h1 h2 h3)
    · exact owe_call1 rfl (wants_all rfl) rfl (opnd_op 1 4 (by kernel_rfl) rfl) (fresh_is _) rfl (fun args w => by go_simp) (fun w u h1 => g_rbits1 (by omega) w u ((nx_nv (Nat.le_refl _)) _ _ h1))
    · exact owe_move rfl (wants_all rfl) (Or.inr rfl) (opnd_op 2 5 (by kernel_rfl) rfl) rfl
  intro B2 a2 W2 S2
  replace S2 : Sta w 6 [(1, (.box 24 (Zx s p n c xs)))] [(2, (Is (.int .i64 (Go.bitLen (val xs) : Nat))))] B2 a2 W2 := S2
  refine wp_ret ?_
  exact end_one S2 rfl (res_tmp S2 0 2 rfl)

theorem g_zbits {A : Int} {k : Nat} (hk : k ≤ 1048576) : ∀ w u, Zv A k u w → Calls Try.prog 18 #[u] w (Gives (IS (.int .i64 (Go.bitLen A.natAbs : Nat))) w) := by
  rintro w u ⟨s, p, n, c, xs, rfl, h, rfl, hn⟩
  rw [sg_abs]
  exact zbits_w w s p n c xs h (by omega)

theorem g_rbits {A : Int} {k : Nat} (hk : k ≤ 1048576) : ∀ w u, Zv A k u w → Calls Try.prog 21 #[u] w (Gives (IS (.int .i64 (Go.bitLen A.natAbs : Nat))) w) := by
  rintro w u ⟨s, p, n, c, xs, rfl, h, rfl, hn⟩
  rw [sg_abs]
  exact rbits_w w s p n c xs h (by omega)

set_option maxHeartbeats 400000 in
theorem rtwo_w (w : World) (x : Nat) (hx : x ≤ 65536) :
    Calls Try.prog 28 #[.int .i64 x] w (Gives (ZN (2 ^ x)) w) := by
  refine calls_sta (sl := [(0, (Is (.int .i64 x)))]) Try.func28 rfl Try.ntmps28 (by simp) (args_cons rfl (is_has _) args_nil) ?_
  intro a0 S0
  refine wp_stmt_seq [.new (.box 24 (Is (.agg #[.bool false, .slice none 0 0])))] [.inl 0] [.inr 0] follows S0 rfl (by kernel_rfl) ?_ ?_
  · refine ⟨trivial, ?_⟩
    · exact owe_new rfl (wants_all rfl) rfl rfl (fun ρ w => alloc_int ρ _ w)
  intro B1 a1 W1 S1
  replace S1 : Sta w 6 [(2, (.box 24 (Is (.agg #[.bool false, .slice none 0 0]))))] [(0, (Is (.int .i64 x)))] B1 a1 W1 := S1
  refine wp_stmt_seq [.val (Is (.int .i64 x)),
      .val ((NW (2 ^ x) (x / 32 + 1)) w.heap.size),
      .val ((ZN (2 ^ x)) w.heap.size),
      .put (.inl 2) (.box 24 ((ZN (2 ^ x)) w.heap.size))] [.inr 0] [] follows S1 rfl (by kernel_rfl) ?_ ?_
  · refine ⟨⟨⟨⟨trivial, ?_⟩, ?_⟩, ?_⟩, ?_⟩
    · exact owe_move rfl (wants_all rfl) (Or.inl rfl) (opnd_slot 0 0 rfl (by kernel_rfl)) rfl
    · exact owe_call1 rfl (wants_all rfl) rfl (opnd_op 0 3 (by kernel_rfl) rfl) (fresh_nw _ _) rfl (fun args w => by go_simp) (g_rtwo1 (by omega))
    · exact owe_call2 rfl (wants_all rfl) rfl (opnd_const _) (opnd_op 1 4 (by kernel_rfl) rfl) (fresh_zn _) rfl (fun args w => by go_simp) (fun w u0 u1 h0 h1 => Gives.cast ((fun w u v h1 h2 => g_made (by omega) w u v h1 (nw_nv _ _ h2)) w u0 u1 h0 h1) (by simp [sg]))
    · exact owe_set rfl (wants_all rfl) rfl (k := 0) rfl (by kernel_rfl) (opnd_op 2 5 (by kernel_rfl) rfl) (stores_of strct_int shp_z0 shp_zn) rfl
  intro B2 a2 W2 S2
  replace S2 : Sta w 6 [(2, (.box 24 ((ZN (2 ^ x)) w.heap.size)))] [] B2 a2 W2 := S2
  refine wp_ret ?_
  exact end_one S2 rfl (res_cell S2 0 2 rfl strct_int shp_zn)

theorem g_rtwo {z : Int} (h0 : 0 ≤ z) (h1 : z ≤ 65536) : ∀ w u, Is (.int .i64 z) u w → Calls Try.prog 28 #[u] w (Gives (ZN (2 ^ z.toNat)) w) := by
  rintro w u e
  obtain rfl : u = _ := e
  obtain ⟨Z, rfl⟩ : ∃ Z : Nat, z = (Z : Int) := ⟨z.toNat, by omega⟩
  exact rtwo_w w Z (by omega)

set_option maxHeartbeats 400000 in
theorem up_w0 (w : World) (p : Option Addr) (n c : Nat) (xs : List Nat) (z : Int) (h : Sl w p n c xs) (hn : n ≤ 1048576) (hz : 0 ≤ z) (hz2 : z ≤ 65536) (P M K R : Nat) (hR : z % 32 = R) (hP : 2 ^ R = P) (hP2 : P < 4294967296) (hM : P * val xs = M) (hK : z / 32 = K) (hm : (((digs M).length : Nat) : Int) = 0) :
    Calls Try.prog 24 #[.slice p n c, .int .i64 z] w (Gives (IS (.slice none 0 0)) w) := by
  refine calls_sta (sl := [(0, (Nx p n c xs)), (1, (Is (.int .i64 z)))]) Try.func24 rfl Try.ntmps24 (by simp) (args_cons rfl (nx_has h) (args_cons rfl (is_has _) args_nil)) ?_
  intro a0 S0
  refine wp_stmt_seq [.val (Is (.slice none 0 0))] [] [.inl 0, .inr 0, .inr 1] follows S0 rfl (by kernel_rfl) ?_ ?_
  · refine ⟨trivial, ?_⟩
    · exact owe_move rfl (wants_all rfl) (Or.inr rfl) (opnd_const _) rfl
  intro B1 a1 W1 S1
  replace S1 : Sta w 29 [] [(4, (Is (.slice none 0 0))), (0, (Nx p n c xs)), (1, (Is (.int .i64 z)))] B1 a1 W1 := S1
  refine wp_stmt_seq [.val (Is (.int .i64 z)),
      .val (Is (.int .i64 R)),
      .val (Is (.int .u32 P)),
      .val ((BS P) w.heap.size),
      .val (Nx p n c xs),
      .val ((NN (M)) w.heap.size),
      .val ((NN (M)) w.heap.size)] [] [.inl 6, .inr 0, .inr 2] follows S1 rfl (by kernel_rfl) ?_ ?_
  · refine ⟨⟨⟨⟨⟨⟨⟨trivial, ?_⟩, ?_⟩, ?_⟩, ?_⟩, ?_⟩, ?_⟩, ?_⟩
    · exact owe_move rfl (wants_all rfl) (Or.inl rfl) (opnd_slot 2 1 rfl (by kernel_rfl)) rfl
    · exact owe_bin rfl (wants_all rfl) rfl (opnd_op 0 7 (by kernel_rfl) rfl) (opnd_const _) rfl (fun ρ w h1 h2 => by exact run_rem_int ρ _ _ _ w _ _ _ ⟨hR, hz, by omega, by omega⟩ h1 h2)
    · exact owe_bin rfl (wants_all rfl) rfl (opnd_const _) (opnd_op 1 8 (by kernel_rfl) rfl) rfl (fun ρ w h1 h2 => by exact run_shl1 ρ _ _ _ w R P (by omega) hP h1 h2)
    · exact owe_bs rfl (wants_all rfl) rfl (opnd_op 2 9 (by kernel_rfl) rfl) hP2 rfl
    · exact owe_move rfl (wants_all rfl) (Or.inl rfl) (opnd_slot 1 0 rfl (by kernel_rfl)) rfl
    · exact owe_call2 rfl (wants_all rfl) rfl (opnd_op 3 10 (by kernel_rfl) rfl) (opnd_op 4 11 (by kernel_rfl) rfl) (fresh_nn _) rfl (fun args w => by go_simp) (fun w u0 u1 h0 h1 => Gives.cast ((fun w u v h1 h2 => g_mul (by omega) w u v (bs_nv _ _ h1) ((nx_nv (Nat.le_refl _)) _ _ h2)) w u0 u1 h0 h1) (by rw [hM]))
    · exact owe_move rfl (wants_all rfl) (Or.inr rfl) (opnd_op 5 12 (by kernel_rfl) rfl) rfl
  intro B2 a2 W2 S2
  replace S2 : Sta w 29 [] [(5, ((NN (M)) w.heap.size)), (4, (Is (.slice none 0 0))), (1, (Is (.int .i64 z)))] B2 a2 W2 := S2
  refine wp_seq ?_
  refine wp_stmt_seq [.val ((NN (M)) w.heap.size),
      .val (Is (.int .i64 ((digs (M)).length : Nat))),
      .val (Is (.bool true))] [] [.inl 2, .inr 0, .inr 1, .inr 2] follows S2 rfl (by kernel_rfl) ?_ ?_
  · refine ⟨⟨⟨trivial, ?_⟩, ?_⟩, ?_⟩
    · exact owe_move rfl (wants_all rfl) (Or.inl rfl) (opnd_slot 0 5 rfl (by kernel_rfl)) rfl
    · exact owe_len rfl (wants_all rfl) rfl (opnd_op 0 13 (by kernel_rfl) rfl) nn_len Try.underlying22 rfl
    · exact owe_bin rfl (wants_all rfl) rfl (opnd_op 1 14 (by kernel_rfl) rfl) (opnd_const _) rfl (fun ρ w h1 h2 => by exact run_eql_int_t ρ _ _ _ w _ _ hm h1 h2)
  intro B3 a3 W3 S3
  replace S3 : Sta w 29 [] [(15, (Is (.bool true))), (5, ((NN (M)) w.heap.size)), (4, (Is (.slice none 0 0))), (1, (Is (.int .i64 z)))] B3 a3 W3 := S3
  refine wp_cond_true (S3.bool 0 15 rfl) ?_
  refine wp_stmt_seq [.val (Is (.slice none 0 0))] [] [.inl 0, .inr 0, .inr 1, .inr 3] follows S3 rfl (by kernel_rfl) ?_ ?_
  · refine ⟨trivial, ?_⟩
    · exact owe_move rfl (wants_all rfl) (Or.inr rfl) (opnd_const _) rfl
  intro B4 a4 W4 S4
  replace S4 : Sta w 29 [] [(4, (Is (.slice none 0 0))), (15, (Is (.bool true))), (5, ((NN (M)) w.heap.size)), (1, (Is (.int .i64 z)))] B4 a4 W4 := S4
  refine wp_ret ?_
  refine thenR ?_
  exact end_one S4 rfl (res_tmp S4 0 4 rfl)

set_option maxHeartbeats 400000 in
theorem up_w1 (w : World) (p : Option Addr) (n c : Nat) (xs : List Nat) (z : Int) (h : Sl w p n c xs) (hn : n ≤ 1048576) (hz : 0 ≤ z) (hz2 : z ≤ 65536) (P M K R : Nat) (hR : z % 32 = R) (hP : 2 ^ R = P) (hP2 : P < 4294967296) (hM : P * val xs = M) (hK : z / 32 = K) (hm : (((digs M).length : Nat) : Int) ≠ 0) (hl : (digs M).length ≤ 1 + n) :
    Calls Try.prog 24 #[.slice p n c, .int .i64 z] w (Gives (NR ((List.replicate (K + (digs M).length) 0).take K ++ digs M ++ (List.replicate (K + (digs M).length) 0).drop (K + (digs M).length))) w) := by
  refine calls_sta (sl := [(0, (Nx p n c xs)), (1, (Is (.int .i64 z)))]) Try.func24 rfl Try.ntmps24 (by simp) (args_cons rfl (nx_has h) (args_cons rfl (is_has _) args_nil)) ?_
  intro a0 S0
  refine wp_stmt_seq [.val (Is (.slice none 0 0))] [] [.inl 0, .inr 0, .inr 1] follows S0 rfl (by kernel_rfl) ?_ ?_
  · refine ⟨trivial, ?_⟩
    · exact owe_move rfl (wants_all rfl) (Or.inr rfl) (opnd_const _) rfl
  intro B1 a1 W1 S1
  replace S1 : Sta w 29 [] [(4, (Is (.slice none 0 0))), (0, (Nx p n c xs)), (1, (Is (.int .i64 z)))] B1 a1 W1 := S1
  refine wp_stmt_seq [.val (Is (.int .i64 z)),
      .val (Is (.int .i64 R)),
      .val (Is (.int .u32 P)),
      .val ((BS P) w.heap.size),
      .val (Nx p n c xs),
      .val ((NN (M)) w.heap.size),
      .val ((NN (M)) w.heap.size)] [] [.inl 6, .inr 0, .inr 2] follows S1 rfl (by kernel_rfl) ?_ ?_
  · refine ⟨⟨⟨⟨⟨⟨⟨trivial, ?_⟩, ?_⟩, ?_⟩, ?_⟩, ?_⟩, ?_⟩, ?_⟩
    · exact owe_move rfl (wants_all rfl) (Or.inl rfl) (opnd_slot 2 1 rfl (by kernel_rfl)) rfl
    · exact owe_bin rfl (wants_all rfl) rfl (opnd_op 0 7 (by kernel_rfl) rfl) (opnd_const _) rfl (fun ρ w h1 h2 => by exact run_rem_int ρ _ _ _ w _ _ _ ⟨hR, hz, by omega, by omega⟩ h1 h2)
    · exact owe_bin rfl (wants_all rfl) rfl (opnd_const _) (opnd_op 1 8 (by kernel_rfl) rfl) rfl (fun ρ w h1 h2 => by exact run_shl1 ρ _ _ _ w R P (by omega) hP h1 h2)
    · exact owe_bs rfl (wants_all rfl) rfl (opnd_op 2 9 (by kernel_rfl) rfl) hP2 rfl
    · exact owe_move rfl (wants_all rfl) (Or.inl rfl) (opnd_slot 1 0 rfl (by kernel_rfl)) rfl
    · exact owe_call2 rfl (wants_all rfl) rfl (opnd_op 3 10 (by kernel_rfl) rfl) (opnd_op 4 11 (by kernel_rfl) rfl) (fresh_nn _) rfl (fun args w => by go_simp) (fun w u0 u1 h0 h1 => Gives.cast ((fun w u v h1 h2 => g_mul (by omega) w u v (bs_nv _ _ h1) ((nx_nv (Nat.le_refl _)) _ _ h2)) w u0 u1 h0 h1) (by rw [hM]))
    · exact owe_move rfl (wants_all rfl) (Or.inr rfl) (opnd_op 5 12 (by kernel_rfl) rfl) rfl
  intro B2 a2 W2 S2
  replace S2 : Sta w 29 [] [(5, ((NN (M)) w.heap.size)), (4, (Is (.slice none 0 0))), (1, (Is (.int .i64 z)))] B2 a2 W2 := S2
  refine wp_seq ?_
  refine wp_stmt_seq [.val ((NN (M)) w.heap.size),
      .val (Is (.int .i64 ((digs (M)).length : Nat))),
      .val (Is (.bool false))] [] [.inl 2, .inr 0, .inr 1, .inr 2] follows S2 rfl (by kernel_rfl) ?_ ?_
  · refine ⟨⟨⟨trivial, ?_⟩, ?_⟩, ?_⟩
    · exact owe_move rfl (wants_all rfl) (Or.inl rfl) (opnd_slot 0 5 rfl (by kernel_rfl)) rfl
    · exact owe_len rfl (wants_all rfl) rfl (opnd_op 0 13 (by kernel_rfl) rfl) nn_len Try.underlying22 rfl
    · exact owe_bin rfl (wants_all rfl) rfl (opnd_op 1 14 (by kernel_rfl) rfl) (opnd_const _) rfl (fun ρ w h1 h2 => by exact run_eql_int_f ρ _ _ _ w _ _ hm h1 h2)
  intro B3 a3 W3 S3
  replace S3 : Sta w 29 [] [(15, (Is (.bool false))), (5, ((NN (M)) w.heap.size)), (4, (Is (.slice none 0 0))), (1, (Is (.int .i64 z)))] B3 a3 W3 := S3
  refine wp_cond_false (S3.bool 0 15 rfl) ?_
  refine wp_skip ?_
  refine thenN ?_
  refine wp_stmt_seq [.val (Is (.int .i64 z)),
      .val (Is (.int .i64 K)),
      .val ((NN (M)) w.heap.size),
      .val (Is (.int .i64 ((digs (M)).length : Nat))),
      .val (Is (.int .i64 (K + (digs M).length : Nat))),
      .new (.row 44 1 (K + (digs M).length) (EqL (U (List.replicate (K + (digs M).length) 0)))),
      .ref 5] [.inl 6] [.inr 0, .inr 1, .inr 2, .inr 3] follows S3 rfl (by kernel_rfl) ?_ ?_
  · refine ⟨⟨⟨⟨⟨⟨⟨trivial, ?_⟩, ?_⟩, ?_⟩, ?_⟩, ?_⟩, ?_⟩, ?_⟩
    · exact owe_move rfl (wants_all rfl) (Or.inl rfl) (opnd_slot 3 1 rfl (by kernel_rfl)) rfl
    · exact owe_bin rfl (wants_all rfl) rfl (opnd_op 0 16 (by kernel_rfl) rfl) (opnd_const _) rfl (fun ρ w h1 h2 => by exact run_quo_int ρ _ _ _ w _ _ _ ⟨hK, hz, by omega, by omega⟩ h1 h2)
    · exact owe_move rfl (wants_all rfl) (Or.inl rfl) (opnd_slot 1 5 rfl (by kernel_rfl)) rfl
    · exact owe_len rfl (wants_all rfl) rfl (opnd_op 2 18 (by kernel_rfl) rfl) nn_len Try.underlying22 rfl
    · exact owe_bin rfl (wants_all rfl) rfl (opnd_op 1 17 (by kernel_rfl) rfl) (opnd_op 3 19 (by kernel_rfl) rfl) rfl (fun ρ w h1 h2 => by exact run_add_int ρ _ _ _ w _ _ _ ⟨by omega, by omega, by omega⟩ h1 h2)
    · exact owe_make rfl (wants_all rfl) rfl (opnd_op 4 20 (by kernel_rfl) rfl) (by omega) rfl
    · exact owe_ref 5 rfl (wants_all rfl) (Or.inr rfl) (by kernel_rfl) rfl rfl
  intro B4 a4 W4 S4
  replace S4 : Sta w 29 [(6, (.row 44 1 (K + (digs M).length) (EqL (U (List.replicate (K + (digs M).length) 0)))))] [(15, (Is (.bool false))), (5, ((NN (M)) w.heap.size)), (4, (Is (.slice none 0 0))), (1, (Is (.int .i64 z)))] B4 a4 W4 := S4
  refine wp_stmt_seq [.val (Is (a4.eval (.tmp 6))),
      .val (Is (.int .i64 z)),
      .val (Is (.int .i64 K)),
      .val (Tail a4 6 (K + (digs M).length) K),
      .val ((NN (M)) w.heap.size),
      .put (.inl 6) (.row 44 1 (K + (digs M).length) (EqL (U ((List.replicate (K + (digs M).length) 0).take K ++ digs M ++ (List.replicate (K + (digs M).length) 0).drop (K + (digs M).length)))))] [.inr 0] [.inr 0, .inr 1, .inr 2, .inr 3] follows S4 rfl (by kernel_rfl) ?_ ?_
  · refine ⟨⟨⟨⟨⟨⟨trivial, ?_⟩, ?_⟩, ?_⟩, ?_⟩, ?_⟩, ?_⟩
    · exact owe_same rfl (wants_all rfl) (Or.inl rfl) (by kernel_rfl) rfl
    · exact owe_move rfl (wants_all rfl) (Or.inl rfl) (opnd_slot 3 1 rfl (by kernel_rfl)) rfl
    · exact owe_bin rfl (wants_all rfl) rfl (opnd_op 1 23 (by kernel_rfl) rfl) (opnd_const _) rfl (fun ρ w h1 h2 => by exact run_quo_int ρ _ _ _ w _ _ _ ⟨hK, hz, by omega, by omega⟩ h1 h2)
    · exact owe_tail rfl (wants_all rfl) rfl (opnd_op 0 22 (by kernel_rfl) rfl) (k := 0) rfl (by kernel_rfl) (opnd_op 2 24 (by kernel_rfl) rfl) (by omega) rfl
    · exact owe_move rfl (wants_all rfl) (Or.inl rfl) (opnd_slot 1 5 rfl (by kernel_rfl)) rfl
    · exact owe_copy (kk := 0) rfl (wants_all rfl) rfl (opnd_op 3 25 (by kernel_rfl) rfl) (k := 0) rfl (by kernel_rfl) (opnd_op 4 26 (by kernel_rfl) rfl) (fun v w ⟨r, c, e, h, _⟩ => ⟨r, c, e, h⟩) (by omega) (by omega) rfl
  intro B5 a5 W5 S5
  replace S5 : Sta w 29 [(6, (.row 44 1 (K + (digs M).length) (EqL (U ((List.replicate (K + (digs M).length) 0).take K ++ digs M ++ (List.replicate (K + (digs M).length) 0).drop (K + (digs M).length))))))] [(15, (Is (.bool false))), (5, ((NN (M)) w.heap.size)), (4, (Is (.slice none 0 0))), (1, (Is (.int .i64 z)))] B5 a5 W5 := S5
  obtain ⟨B6, S6⟩ : ∃ B, Sta w 29 [] [(6, ((NR ((List.replicate (K + (digs M).length) 0).take K ++ digs M ++ (List.replicate (K + (digs M).length) 0).drop (K + (digs M).length))) w.heap.size)), (15, (Is (.bool false))), (5, ((NN (M)) w.heap.size)), (4, (Is (.slice none 0 0))), (1, (Is (.int .i64 z)))] B a5 W5 := ⟨_, S5.freeze 0 rfl (by simp) (row_nr up_ok)⟩
  obtain ⟨a6, W6, e1, e2⟩ : ∃ a W, a5 = a ∧ W5 = W := ⟨_, _, rfl, rfl⟩
  rw [e1, e2] at S6 ⊢
  clear e1 e2
  refine wp_stmt_seq [.val ((NR ((List.replicate (K + (digs M).length) 0).take K ++ digs M ++ (List.replicate (K + (digs M).length) 0).drop (K + (digs M).length))) w.heap.size),
      .val ((NR ((List.replicate (K + (digs M).length) 0).take K ++ digs M ++ (List.replicate (K + (digs M).length) 0).drop (K + (digs M).length))) w.heap.size)] [] [.inl 1, .inr 0, .inr 1, .inr 2, .inr 4] follows S6 rfl (by kernel_rfl) ?_ ?_
  · refine ⟨⟨trivial, ?_⟩, ?_⟩
    · exact owe_move rfl (wants_all rfl) (Or.inl rfl) (opnd_slot 0 6 rfl (by kernel_rfl)) rfl
    · exact owe_move rfl (wants_all rfl) (Or.inr rfl) (opnd_op 0 28 (by kernel_rfl) rfl) rfl
  intro B7 a7 W7 S7
  replace S7 : Sta w 29 [] [(4, ((NR ((List.replicate (K + (digs M).length) 0).take K ++ digs M ++ (List.replicate (K + (digs M).length) 0).drop (K + (digs M).length))) w.heap.size)), (6, ((NR ((List.replicate (K + (digs M).length) 0).take K ++ digs M ++ (List.replicate (K + (digs M).length) 0).drop (K + (digs M).length))) w.heap.size)), (15, (Is (.bool false))), (5, ((NN (M)) w.heap.size)), (1, (Is (.int .i64 z)))] B7 a7 W7 := S7
  refine wp_ret ?_
  exact end_one S7 rfl (res_tmp S7 0 4 rfl)

theorem g_up {x k : Nat} {z : Int} (hk : k ≤ 1048576) (hz : 0 ≤ z) (hz2 : z ≤ 65536) : ∀ w u v, Nv x k u w → Is (.int .i64 z) v w → Calls Try.prog 24 #[u, v] w (Gives (NN (x * 2 ^ z.toNat)) w) := by
  rintro w u v ⟨p, n, c, xs, rfl, h, rfl, hn⟩ e
  obtain rfl : v = _ := e
  obtain ⟨Z, rfl⟩ : ∃ Z : Nat, z = (Z : Int) := ⟨z.toNat, by omega⟩
  rw [Int.toNat_natCast]
  have hr : Z % 32 < 32 := Nat.mod_lt _ (by decide)
  have hP : 2 ^ (Z % 32) < 4294967296 := Nat.lt_of_lt_of_le (Nat.pow_lt_pow_right (by omega) hr) (by decide)
  have hx : val xs * 2 ^ Z = 2 ^ (Z % 32) * val xs * 2 ^ (32 * (Z / 32)) := by
    rw [Nat.mul_comm (2 ^ (Z % 32)), Nat.mul_assoc, ← Nat.pow_add]
    congr 2
    omega
  by_cases hm : 2 ^ (Z % 32) * val xs = 0
  · have := up_w0 w p n c xs Z h (by omega) hz hz2 _ _ (Z / 32) (Z % 32) (by omega) rfl hP rfl (by omega) (by rw [hm]; rfl)
    rw [hx, hm, Nat.zero_mul]
    refine this.mono ?_
    rintro e w' ⟨v, rfl, hb, h⟩
    exact ⟨v, rfl, hb, zero_nn _ _ h⟩
  · have hl : (digs (2 ^ (Z % 32) * val xs)).length ≠ 0 := fun e => hm ((digs_length_zero _).1 e)
    have := up_w1 w p n c xs Z h (by omega) hz hz2 _ _ (Z / 32) (Z % 32) (by omega) rfl hP rfl (by omega) (by omega) (digs_mul_len (digs_length_le (by omega)) h.dl)
    rw [up_list, up_digs hm, ← hx] at this
    exact this

set_option maxHeartbeats 400000 in
theorem dab_w (w : World) (p : Option Addr) (n c : Nat) (xs : List Nat) (z : Int) (h : Sl w p n c xs) (hn : n ≤ 1048576) (hz : 0 ≤ z) (hz2 : z ≤ 9223372036854775807) (hle : 1 ≤ val xs) :
    Calls Try.prog 26 #[.slice p n c, .int .i64 z] w (Gives (NN ((val xs - 1) / 2 ^ z.toNat + 1)) w) := by
  have dm : (digs (val xs - 1)).length ≤ n := Nat.le_trans (digs_length_mono (by omega)) h.dl
  have dq : (digs ((val xs - 1) / 2 ^ z.toNat)).length ≤ n := Nat.le_trans (digs_length_mono (Nat.div_le_self _ _)) dm
  refine calls_sta (sl := [(0, (Nx p n c xs)), (1, (Is (.int .i64 z)))]) Try.func26 rfl Try.ntmps26 (by simp) (args_cons rfl (nx_has h) (args_cons rfl (is_has _) args_nil)) ?_
  intro a0 S0
  refine wp_stmt_seq [.val (Is (.slice none 0 0))] [] [.inl 0, .inr 0, .inr 1] follows S0 rfl (by kernel_rfl) ?_ ?_
  · refine ⟨trivial, ?_⟩
    · exact owe_move rfl (wants_all rfl) (Or.inr rfl) (opnd_const _) rfl
  intro B1 a1 W1 S1
  replace S1 : Sta w 26 [] [(4, (Is (.slice none 0 0))), (0, (Nx p n c xs)), (1, (Is (.int .i64 z)))] B1 a1 W1 := S1
  refine wp_stmt_seq [.val ((BS 1) w.heap.size),
      .val ((BS 1) w.heap.size)] [] [.inl 1, .inr 0, .inr 1, .inr 2] follows S1 rfl (by kernel_rfl) ?_ ?_
  · refine ⟨⟨trivial, ?_⟩, ?_⟩
    · exact owe_bs rfl (wants_all rfl) rfl (opnd_const _) (by decide) rfl
    · exact owe_move rfl (wants_all rfl) (Or.inr rfl) (opnd_op 0 10 (by kernel_rfl) rfl) rfl
  intro B2 a2 W2 S2
  replace S2 : Sta w 26 [] [(5, ((BS 1) w.heap.size)), (4, (Is (.slice none 0 0))), (0, (Nx p n c xs)), (1, (Is (.int .i64 z)))] B2 a2 W2 := S2
  refine wp_stmt_seq [.val (Nx p n c xs),
      .val ((BS 1) w.heap.size),
      .val ((TWO (NN (val xs - 1)) (IS (.int .i64 0))) w.heap.size),
      .val ((TWO (NN (val xs - 1)) (IS (.int .i64 0))) w.heap.size),
      .val ((NN (val xs - 1)) w.heap.size),
      .val (Is (.int .i64 0)),
      .val ((NN (val xs - 1)) w.heap.size),
      .val (Is (.int .i64 0))] [] [.inl 6, .inr 0, .inr 1, .inr 3] follows S2 rfl (by kernel_rfl) ?_ ?_
  · refine ⟨⟨⟨⟨⟨⟨⟨⟨trivial, ?_⟩, ?_⟩, ?_⟩, ?_⟩, ?_⟩, ?_⟩, ?_⟩, ?_⟩
    · exact owe_move rfl (wants_all rfl) (Or.inl rfl) (opnd_slot 2 0 rfl (by kernel_rfl)) rfl
    · exact owe_move rfl (wants_all rfl) (Or.inl rfl) (opnd_slot 0 5 rfl (by kernel_rfl)) rfl
    · exact owe_call2 rfl (wants_all rfl) rfl (opnd_op 0 12 (by kernel_rfl) rfl) (opnd_op 1 13 (by kernel_rfl) rfl) (fresh_two (fresh_nn _) (fresh_is _)) rfl (fun args w => by go_simp) (fun w u v h1 h2 => g_sub (by omega) hle w u v ((nx_nv (Nat.le_refl _)) _ _ h1) (bs_nv _ _ h2))
    · exact owe_move rfl (wants_all rfl) (Or.inl rfl) (opnd_op 2 14 (by kernel_rfl) rfl) rfl
    · exact owe_ext2 rfl (wants_all rfl) rfl (opnd_op 3 11 (by kernel_rfl) rfl) (Or.inl ⟨rfl, rfl⟩) rfl
    · exact owe_ext2 rfl (wants_all rfl) rfl (opnd_op 3 11 (by kernel_rfl) rfl) (Or.inr ⟨rfl, rfl⟩) rfl
    · exact owe_move rfl (wants_all rfl) (Or.inr rfl) (opnd_op 4 15 (by kernel_rfl) rfl) rfl
    · exact owe_move rfl (wants_all rfl) (Or.inr rfl) (opnd_op 5 16 (by kernel_rfl) rfl) rfl
  intro B3 a3 W3 S3
  replace S3 : Sta w 26 [] [(6, ((NN (val xs - 1)) w.heap.size)), (5, ((BS 1) w.heap.size)), (4, (Is (.slice none 0 0))), (1, (Is (.int .i64 z)))] B3 a3 W3 := S3
  refine wp_stmt_seq [.val ((NN (val xs - 1)) w.heap.size),
      .val (Is (.int .i64 z)),
      .val ((TWO (NN ((val xs - 1) / 2 ^ z.toNat)) (IS (.int .i64 0))) w.heap.size),
      .val ((TWO (NN ((val xs - 1) / 2 ^ z.toNat)) (IS (.int .i64 0))) w.heap.size),
      .val ((NN ((val xs - 1) / 2 ^ z.toNat)) w.heap.size),
      .val (Is (.int .i64 0)),
      .val ((NN ((val xs - 1) / 2 ^ z.toNat)) w.heap.size),
      .val (Is (.int .i64 0))] [] [.inl 6, .inr 1, .inr 2] follows S3 rfl (by kernel_rfl) ?_ ?_
  · refine ⟨⟨⟨⟨⟨⟨⟨⟨trivial, ?_⟩, ?_⟩, ?_⟩, ?_⟩, ?_⟩, ?_⟩, ?_⟩, ?_⟩
    · exact owe_move rfl (wants_all rfl) (Or.inl rfl) (opnd_slot 0 6 rfl (by kernel_rfl)) rfl
    · exact owe_move rfl (wants_all rfl) (Or.inl rfl) (opnd_slot 3 1 rfl (by kernel_rfl)) rfl
    · exact owe_call2 rfl (wants_all rfl) rfl (opnd_op 0 18 (by kernel_rfl) rfl) (opnd_op 1 19 (by kernel_rfl) rfl) (fresh_two (fresh_nn _) (fresh_is _)) rfl (fun args w => by go_simp) (fun w u v h1 h2 => g_shr (by omega) hz hz2 w u v ((nn_nv dm) _ _ h1) h2)
    · exact owe_move rfl (wants_all rfl) (Or.inl rfl) (opnd_op 2 20 (by kernel_rfl) rfl) rfl
    · exact owe_ext2 rfl (wants_all rfl) rfl (opnd_op 3 17 (by kernel_rfl) rfl) (Or.inl ⟨rfl, rfl⟩) rfl
    · exact owe_ext2 rfl (wants_all rfl) rfl (opnd_op 3 17 (by kernel_rfl) rfl) (Or.inr ⟨rfl, rfl⟩) rfl
    · exact owe_move rfl (wants_all rfl) (Or.inr rfl) (opnd_op 4 21 (by kernel_rfl) rfl) rfl
    · exact owe_move rfl (wants_all rfl) (Or.inr rfl) (opnd_op 5 22 (by kernel_rfl) rfl) rfl
  intro B4 a4 W4 S4
  replace S4 : Sta w 26 [] [(8, ((NN ((val xs - 1) / 2 ^ z.toNat)) w.heap.size)), (5, ((BS 1) w.heap.size)), (4, (Is (.slice none 0 0)))] B4 a4 W4 := S4
  refine wp_stmt_seq [.val ((NN ((val xs - 1) / 2 ^ z.toNat)) w.heap.size),
      .val ((BS 1) w.heap.size),
      .val ((NN (((val xs - 1) / 2 ^ z.toNat) + 1)) w.heap.size),
      .val ((NN (((val xs - 1) / 2 ^ z.toNat) + 1)) w.heap.size)] [] [.inl 3, .inr 1] follows S4 rfl (by kernel_rfl) ?_ ?_
  · refine ⟨⟨⟨⟨trivial, ?_⟩, ?_⟩, ?_⟩, ?_⟩
    · exact owe_move rfl (wants_all rfl) (Or.inl rfl) (opnd_slot 0 8 rfl (by kernel_rfl)) rfl
    · exact owe_move rfl (wants_all rfl) (Or.inl rfl) (opnd_slot 1 5 rfl (by kernel_rfl)) rfl
    · exact owe_call2 rfl (wants_all rfl) rfl (opnd_op 0 23 (by kernel_rfl) rfl) (opnd_op 1 24 (by kernel_rfl) rfl) (fresh_nn _) rfl (fun args w => by go_simp) (fun w u v h1 h2 => g_add (by omega) (by omega) w u v ((nn_nv dq) _ _ h1) (bs_nv _ _ h2))
    · exact owe_move rfl (wants_all rfl) (Or.inr rfl) (opnd_op 2 25 (by kernel_rfl) rfl) rfl
  intro B5 a5 W5 S5
  replace S5 : Sta w 26 [] [(4, ((NN (((val xs - 1) / 2 ^ z.toNat) + 1)) w.heap.size)), (5, ((BS 1) w.heap.size))] B5 a5 W5 := S5
  refine wp_ret ?_
  exact end_one S5 rfl (res_tmp S5 0 4 rfl)

theorem g_dab {x k : Nat} {z : Int} (hk : k ≤ 1048576) (hz : 0 ≤ z) (hz2 : z ≤ 9223372036854775807) (hle : 1 ≤ x) : ∀ w u v, Nv x k u w → Is (.int .i64 z) v w → Calls Try.prog 26 #[u, v] w (Gives (NN ((x - 1) / 2 ^ z.toNat + 1)) w) := by
  rintro w u v ⟨p, n, c, xs, rfl, h, rfl, hn⟩ e
  obtain rfl : v = _ := e
  exact dab_w w p n c xs z h (by omega) hz hz2 hle

set_option maxHeartbeats 400000 in
theorem zsh_w0 (w : World) (s : Bool) (p : Option Addr) (n c : Nat) (xs : List Nat) (z : Int) (h : Sl w p n c xs) (A : Int) (eA : sg s (val xs) = A) (hn : n ≤ 1048576) (hz0 : -9223372036854775808 ≤ z) (hz9 : z ≤ 9223372036854775807) (hl : 65536 < z) :
    Calls Try.prog 9 #[.agg #[.bool s, .slice p n c], .int .i64 z] w (Gives (TWO (IS (.agg #[.bool false, .slice none 0 0])) (IS (.int .i64 2))) w) := by
  refine calls_sta (sl := [(0, (Zx s p n c xs)), (1, (Is (.int .i64 z)))]) Try.func9 rfl Try.ntmps9 (by simp) (args_cons rfl (zx_has h) (args_cons rfl (is_has _) args_nil)) ?_
  intro a0 S0
  refine wp_stmt_seq [.new (.box 24 (Zx s p n c xs)),
      .new (.box 24 (Is (.agg #[.bool false, .slice none 0 0]))),
      .val (Is (.int .i64 0))] [.inl 0, .inl 1] [.inl 2, .inr 1] follows S0 rfl (by kernel_rfl) ?_ ?_
  · refine ⟨⟨⟨trivial, ?_⟩, ?_⟩, ?_⟩
    · exact owe_box rfl (wants_all rfl) rfl (opnd_slot 0 0 rfl (by kernel_rfl)) rfl (fun ρ w h => box_int shp_zx ρ _ _ w h)
    · exact owe_new rfl (wants_all rfl) rfl rfl (fun ρ w => alloc_int ρ _ w)
    · exact owe_move rfl (wants_all rfl) (Or.inr rfl) (opnd_const _) rfl
  intro B1 a1 W1 S1
  replace S1 : Sta w 47 [(2, (.box 24 (Zx s p n c xs))), (4, (.box 24 (Is (.agg #[.bool false, .slice none 0 0]))))] [(5, (Is (.int .i64 0))), (1, (Is (.int .i64 z)))] B1 a1 W1 := S1
  refine wp_seq ?_
  refine wp_block ?_
  refine wp_stmt_seq [.val (Is (.int .i64 z)),
      .val (Is (.bool true)),
      .val (Is (.bool true)),
      .off,
      .off,
      .val (Is (.bool true)),
      .val (Is (.bool true))] [.inr 0, .inr 1] [.inl 6, .inr 0, .inr 1] follows S1 rfl (by kernel_rfl) ?_ ?_
  · refine ⟨⟨⟨⟨⟨⟨⟨trivial, ?_⟩, ?_⟩, ?_⟩, ?_⟩, ?_⟩, ?_⟩, ?_⟩
    · exact owe_move rfl (wants_all rfl) (Or.inl rfl) (opnd_slot 1 1 rfl (by kernel_rfl)) rfl
    · exact owe_bin rfl (wants_all rfl) rfl (opnd_op 0 9 (by kernel_rfl) rfl) (opnd_const _) rfl (fun ρ w h1 h2 => by exact run_gtr_int_t ρ _ _ _ w _ _ hl h1 h2)
    · exact owe_move rfl (wants_all rfl) (Or.inl rfl) (opnd_op 1 10 (by kernel_rfl) rfl) rfl
    · exact owe_off 2 11 rfl rfl rfl (by kernel_rfl) rfl (by decide)
    · exact owe_off 2 11 rfl rfl rfl (by kernel_rfl) rfl (by decide)
    · exact owe_pick rfl (wants_all rfl) rfl (opnd_op 2 11 (by kernel_rfl) rfl) (fun _ => (opnd_const _)) (fun h => nomatch h) rfl
    · exact owe_move rfl (wants_all rfl) (Or.inr rfl) (opnd_op 5 14 (by kernel_rfl) rfl) rfl
  intro B2 a2 W2 S2
  replace S2 : Sta w 47 [(2, (.box 24 (Zx s p n c xs))), (4, (.box 24 (Is (.agg #[.bool false, .slice none 0 0]))))] [(8, (Is (.bool true))), (5, (Is (.int .i64 0))), (1, (Is (.int .i64 z)))] B2 a2 W2 := S2
  refine wp_cond_true (S2.bool 0 8 rfl) ?_
  refine wp_stmt_seq [.val (Is (.agg #[.bool false, .slice none 0 0])),
      .put (.inl 4) (.box 24 (Is (.agg #[.bool false, .slice none 0 0]))),
      .val (Is (.int .i64 2))] [.inr 0, .inr 1] [.inl 2, .inr 0, .inr 2] follows S2 rfl (by kernel_rfl) ?_ ?_
  · refine ⟨⟨⟨trivial, ?_⟩, ?_⟩, ?_⟩
    · exact owe_build_int rfl (wants_all rfl) rfl rfl
    · exact owe_set rfl (wants_all rfl) rfl (k := 1) rfl (by kernel_rfl) (opnd_op 0 15 (by kernel_rfl) rfl) (stores_of strct_int shp_z0 shp_z0) rfl
    · exact owe_move rfl (wants_all rfl) (Or.inr rfl) (opnd_const _) rfl
  intro B3 a3 W3 S3
  replace S3 : Sta w 47 [(2, (.box 24 (Zx s p n c xs))), (4, (.box 24 (Is (.agg #[.bool false, .slice none 0 0]))))] [(5, (Is (.int .i64 2))), (8, (Is (.bool true))), (1, (Is (.int .i64 z)))] B3 a3 W3 := S3
  refine wp_ret ?_
  refine inBlkR ?_
  refine thenR ?_
  exact end_two S3 rfl (res_cell S3 1 4 rfl strct_int shp_z0) (res_tmp S3 0 5 rfl)

set_option maxHeartbeats 400000 in
theorem zsh_w1 (w : World) (s : Bool) (p : Option Addr) (n c : Nat) (xs : List Nat) (z : Int) (h : Sl w p n c xs) (A : Int) (eA : sg s (val xs) = A) (hn : n ≤ 1048576) (hz0 : -9223372036854775808 ≤ z) (hz9 : z ≤ 9223372036854775807) (hl : z < -65536) :
    Calls Try.prog 9 #[.agg #[.bool s, .slice p n c], .int .i64 z] w (Gives (TWO (IS (.agg #[.bool false, .slice none 0 0])) (IS (.int .i64 2))) w) := by
  refine calls_sta (sl := [(0, (Zx s p n c xs)), (1, (Is (.int .i64 z)))]) Try.func9 rfl Try.ntmps9 (by simp) (args_cons rfl (zx_has h) (args_cons rfl (is_has _) args_nil)) ?_
  intro a0 S0
  refine wp_stmt_seq [.new (.box 24 (Zx s p n c xs)),
      .new (.box 24 (Is (.agg #[.bool false, .slice none 0 0]))),
      .val (Is (.int .i64 0))] [.inl 0, .inl 1] [.inl 2, .inr 1] follows S0 rfl (by kernel_rfl) ?_ ?_
  · refine ⟨⟨⟨trivial, ?_⟩, ?_⟩, ?_⟩
    · exact owe_box rfl (wants_all rfl) rfl (opnd_slot 0 0 rfl (by kernel_rfl)) rfl (fun ρ w h => box_int shp_zx ρ _ _ w h)
    · exact owe_new rfl (wants_all rfl) rfl rfl (fun ρ w => alloc_int ρ _ w)
    · exact owe_move rfl (wants_all rfl) (Or.inr rfl) (opnd_const _) rfl
  intro B1 a1 W1 S1
  replace S1 : Sta w 47 [(2, (.box 24 (Zx s p n c xs))), (4, (.box 24 (Is (.agg #[.bool false, .slice none 0 0]))))] [(5, (Is (.int .i64 0))), (1, (Is (.int .i64 z)))] B1 a1 W1 := S1
  refine wp_seq ?_
  refine wp_block ?_
  refine wp_stmt_seq [.val (Is (.int .i64 z)),
      .val (Is (.bool false)),
      .val (Is (.bool false)),
      .val (Is (.int .i64 z)),
      .val (Is (.bool true)),
      .val (Is (.bool true)),
      .val (Is (.bool true))] [.inr 0, .inr 1] [.inl 6, .inr 0, .inr 1] follows S1 rfl (by kernel_rfl) ?_ ?_
  · refine ⟨⟨⟨⟨⟨⟨⟨trivial, ?_⟩, ?_⟩, ?_⟩, ?_⟩, ?_⟩, ?_⟩, ?_⟩
    · exact owe_move rfl (wants_all rfl) (Or.inl rfl) (opnd_slot 1 1 rfl (by kernel_rfl)) rfl
    · exact owe_bin rfl (wants_all rfl) rfl (opnd_op 0 9 (by kernel_rfl) rfl) (opnd_const _) rfl (fun ρ w h1 h2 => by exact run_gtr_int_f ρ _ _ _ w _ _ (by omega) h1 h2)
    · exact owe_move rfl (wants_all rfl) (Or.inl rfl) (opnd_op 1 10 (by kernel_rfl) rfl) rfl
    · exact owe_move rfl (wants_if 2 11 rfl (by kernel_rfl) rfl) (Or.inl rfl) (opnd_slot 1 1 rfl (by kernel_rfl)) rfl
    · exact owe_bin rfl (wants_if 2 11 rfl (by kernel_rfl) rfl) rfl (opnd_op 3 12 (by kernel_rfl) rfl) (opnd_const _) rfl (fun ρ w h1 h2 => by exact run_lss_int_t ρ _ _ _ w _ _ hl h1 h2)
    · exact owe_pick rfl (wants_all rfl) rfl (opnd_op 2 11 (by kernel_rfl) rfl) (fun h => nomatch h) (fun _ => (opnd_op 4 13 (by kernel_rfl) rfl)) rfl
    · exact owe_move rfl (wants_all rfl) (Or.inr rfl) (opnd_op 5 14 (by kernel_rfl) rfl) rfl
  intro B2 a2 W2 S2
  replace S2 : Sta w 47 [(2, (.box 24 (Zx s p n c xs))), (4, (.box 24 (Is (.agg #[.bool false, .slice none 0 0]))))] [(8, (Is (.bool true))), (5, (Is (.int .i64 0))), (1, (Is (.int .i64 z)))] B2 a2 W2 := S2
  refine wp_cond_true (S2.bool 0 8 rfl) ?_
  refine wp_stmt_seq [.val (Is (.agg #[.bool false, .slice none 0 0])),
      .put (.inl 4) (.box 24 (Is (.agg #[.bool false, .slice none 0 0]))),
      .val (Is (.int .i64 2))] [.inr 0, .inr 1] [.inl 2, .inr 0, .inr 2] follows S2 rfl (by kernel_rfl) ?_ ?_
  · refine ⟨⟨⟨trivial, ?_⟩, ?_⟩, ?_⟩
    · exact owe_build_int rfl (wants_all rfl) rfl rfl
    · exact owe_set rfl (wants_all rfl) rfl (k := 1) rfl (by kernel_rfl) (opnd_op 0 15 (by kernel_rfl) rfl) (stores_of strct_int shp_z0 shp_z0) rfl
    · exact owe_move rfl (wants_all rfl) (Or.inr rfl) (opnd_const _) rfl
  intro B3 a3 W3 S3
  replace S3 : Sta w 47 [(2, (.box 24 (Zx s p n c xs))), (4, (.box 24 (Is (.agg #[.bool false, .slice none 0 0]))))] [(5, (Is (.int .i64 2))), (8, (Is (.bool true))), (1, (Is (.int .i64 z)))] B3 a3 W3 := S3
  refine wp_ret ?_
  refine inBlkR ?_
  refine thenR ?_
  exact end_two S3 rfl (res_cell S3 1 4 rfl strct_int shp_z0) (res_tmp S3 0 5 rfl)

set_option maxHeartbeats 400000 in
theorem zsh_w2 (w : World) (s : Bool) (p : Option Addr) (n c : Nat) (xs : List Nat) (z : Int) (h : Sl w p n c xs) (A : Int) (eA : sg s (val xs) = A) (hn : n ≤ 1048576) (hz0 : -9223372036854775808 ≤ z) (hz9 : z ≤ 9223372036854775807) (hz : 0 ≤ z) (hz2 : z ≤ 65536) :
    Calls Try.prog 9 #[.agg #[.bool s, .slice p n c], .int .i64 z] w (Gives (TWO (ZN (sg s (val xs * 2 ^ z.toNat))) (IS (.int .i64 0))) w) := by
  refine calls_sta (sl := [(0, (Zx s p n c xs)), (1, (Is (.int .i64 z)))]) Try.func9 rfl Try.ntmps9 (by simp) (args_cons rfl (zx_has h) (args_cons rfl (is_has _) args_nil)) ?_
  intro a0 S0
  refine wp_stmt_seq [.new (.box 24 (Zx s p n c xs)),
      .new (.box 24 (Is (.agg #[.bool false, .slice none 0 0]))),
      .val (Is (.int .i64 0))] [.inl 0, .inl 1] [.inl 2, .inr 1] follows S0 rfl (by kernel_rfl) ?_ ?_
  · refine ⟨⟨⟨trivial, ?_⟩, ?_⟩, ?_⟩
    · exact owe_box rfl (wants_all rfl) rfl (opnd_slot 0 0 rfl (by kernel_rfl)) rfl (fun ρ w h => box_int shp_zx ρ _ _ w h)
    · exact owe_new rfl (wants_all rfl) rfl rfl (fun ρ w => alloc_int ρ _ w)
    · exact owe_move rfl (wants_all rfl) (Or.inr rfl) (opnd_const _) rfl
  intro B1 a1 W1 S1
  replace S1 : Sta w 47 [(2, (.box 24 (Zx s p n c xs))), (4, (.box 24 (Is (.agg #[.bool false, .slice none 0 0]))))] [(5, (Is (.int .i64 0))), (1, (Is (.int .i64 z)))] B1 a1 W1 := S1
  refine wp_seq ?_
  refine wp_block ?_
  refine wp_stmt_seq [.val (Is (.int .i64 z)),
      .val (Is (.bool false)),
      .val (Is (.bool false)),
      .val (Is (.int .i64 z)),
      .val (Is (.bool false)),
      .val (Is (.bool false)),
      .val (Is (.bool false))] [.inr 0, .inr 1] [.inl 6, .inr 0, .inr 1] follows S1 rfl (by kernel_rfl) ?_ ?_
  · refine ⟨⟨⟨⟨⟨⟨⟨trivial, ?_⟩, ?_⟩, ?_⟩, ?_⟩, ?_⟩, ?_⟩, ?_⟩
    · exact owe_move rfl (wants_all rfl) (Or.inl rfl) (opnd_slot 1 1 rfl (by kernel_rfl)) rfl
    · exact owe_bin rfl (wants_all rfl) rfl (opnd_op 0 9 (by kernel_rfl) rfl) (opnd_const _) rfl (fun ρ w h1 h2 => by exact run_gtr_int_f ρ _ _ _ w _ _ (by omega) h1 h2)
    · exact owe_move rfl (wants_all rfl) (Or.inl rfl) (opnd_op 1 10 (by kernel_rfl) rfl) rfl
    · exact owe_move rfl (wants_if 2 11 rfl (by kernel_rfl) rfl) (Or.inl rfl) (opnd_slot 1 1 rfl (by kernel_rfl)) rfl
    · exact owe_bin rfl (wants_if 2 11 rfl (by kernel_rfl) rfl) rfl (opnd_op 3 12 (by kernel_rfl) rfl) (opnd_const _) rfl (fun ρ w h1 h2 => by exact run_lss_int_f ρ _ _ _ w _ _ (by omega) h1 h2)
    · exact owe_pick rfl (wants_all rfl) rfl (opnd_op 2 11 (by kernel_rfl) rfl) (fun h => nomatch h) (fun _ => (opnd_op 4 13 (by kernel_rfl) rfl)) rfl
    · exact owe_move rfl (wants_all rfl) (Or.inr rfl) (opnd_op 5 14 (by kernel_rfl) rfl) rfl
  intro B2 a2 W2 S2
  replace S2 : Sta w 47 [(2, (.box 24 (Zx s p n c xs))), (4, (.box 24 (Is (.agg #[.bool false, .slice none 0 0]))))] [(8, (Is (.bool false))), (5, (Is (.int .i64 0))), (1, (Is (.int .i64 z)))] B2 a2 W2 := S2
  refine wp_cond_false (S2.bool 0 8 rfl) ?_
  refine wp_stmt_seq [.val (Is (.int .i64 z)),
      .val (Is (.bool true)),
      .val (Is (.bool true))] [.inr 0, .inr 1] [.inl 2, .inr 0, .inr 1, .inr 2] follows S2 rfl (by kernel_rfl) ?_ ?_
  · refine ⟨⟨⟨trivial, ?_⟩, ?_⟩, ?_⟩
    · exact owe_move rfl (wants_all rfl) (Or.inl rfl) (opnd_slot 2 1 rfl (by kernel_rfl)) rfl
    · exact owe_bin rfl (wants_all rfl) rfl (opnd_op 0 17 (by kernel_rfl) rfl) (opnd_const _) rfl (fun ρ w h1 h2 => by exact run_geq_int_t ρ _ _ _ w _ _ hz h1 h2)
    · exact owe_move rfl (wants_all rfl) (Or.inr rfl) (opnd_op 1 18 (by kernel_rfl) rfl) rfl
  intro B3 a3 W3 S3
  replace S3 : Sta w 47 [(2, (.box 24 (Zx s p n c xs))), (4, (.box 24 (Is (.agg #[.bool false, .slice none 0 0]))))] [(16, (Is (.bool true))), (8, (Is (.bool false))), (5, (Is (.int .i64 0))), (1, (Is (.int .i64 z)))] B3 a3 W3 := S3
  refine wp_cond_true (S3.bool 0 16 rfl) ?_
  refine wp_stmt_seq [.val (Part a3 2 0),
      .val (Is (.bool s)),
      .val (Part a3 2 1),
      .val (Nx p n c xs),
      .val (Is (.int .i64 z)),
      .val ((NN (val xs * 2 ^ z.toNat)) w.heap.size),
      .val ((ZN (sg s (val xs * 2 ^ z.toNat))) w.heap.size),
      .put (.inl 4) (.box 24 ((ZN (sg s (val xs * 2 ^ z.toNat))) w.heap.size)),
      .val (Is (.int .i64 0))] [.inr 0, .inr 1] [.inl 8, .inr 0, .inr 1, .inr 3] follows S3 rfl (by kernel_rfl) ?_ ?_
  · refine ⟨⟨⟨⟨⟨⟨⟨⟨⟨trivial, ?_⟩, ?_⟩, ?_⟩, ?_⟩, ?_⟩, ?_⟩, ?_⟩, ?_⟩, ?_⟩
    · exact owe_part rfl (wants_all rfl) rfl (k := 0) rfl (by kernel_rfl) rfl (fun ρ w b h => part_int0 ρ _ _ w b 0 h)
    · exact owe_pload rfl (wants_all rfl) rfl (opnd_op 0 19 (by kernel_rfl) rfl) (k := 0) rfl (by kernel_rfl) rfl (fun ρ w b u h1 h2 h3 => pload_neg zx_neg ρ _ _ w b u h1 h2 h3)
    · exact owe_part rfl (wants_all rfl) rfl (k := 0) rfl (by kernel_rfl) rfl (fun ρ w b h => part_int1 ρ _ _ w b 0 h)
    · exact owe_pload rfl (wants_all rfl) rfl (opnd_op 2 21 (by kernel_rfl) rfl) (k := 0) rfl (by kernel_rfl) rfl (fun ρ w b u h1 h2 h3 => pload_mag zx_mag ρ _ _ w b u h1 h2 h3)
    · exact owe_move rfl (wants_all rfl) (Or.inl rfl) (opnd_slot 3 1 rfl (by kernel_rfl)) rfl
    · exact owe_call2 rfl (wants_all rfl) rfl (opnd_op 3 22 (by kernel_rfl) rfl) (opnd_op 4 23 (by kernel_rfl) rfl) (fresh_nn _) rfl (fun args w => by go_simp) (fun w u v h1 h2 => g_up (by omega) hz hz2 w u v ((nx_nv (Nat.le_refl _)) _ _ h1) h2)
    · exact owe_callF2 rfl (wants_all rfl) rfl (opnd_op 1 20 (by kernel_rfl) rfl) (opnd_op 5 24 (by kernel_rfl) rfl) rfl (fun args w => by go_simp) g_signed
    · exact owe_set rfl (wants_all rfl) rfl (k := 1) rfl (by kernel_rfl) (opnd_op 6 25 (by kernel_rfl) rfl) (stores_of strct_int shp_z0 shp_zn) rfl
    · exact owe_move rfl (wants_all rfl) (Or.inr rfl) (opnd_const _) rfl
  intro B4 a4 W4 S4
  replace S4 : Sta w 47 [(2, (.box 24 (Zx s p n c xs))), (4, (.box 24 ((ZN (sg s (val xs * 2 ^ z.toNat))) w.heap.size)))] [(5, (Is (.int .i64 0))), (16, (Is (.bool true))), (8, (Is (.bool false))), (1, (Is (.int .i64 z)))] B4 a4 W4 := S4
  refine wp_ret ?_
  refine inBlkR ?_
  refine thenR ?_
  exact end_two S4 rfl (res_cell S4 1 4 rfl strct_int shp_zn) (res_tmp S4 0 5 rfl)

set_option maxHeartbeats 400000 in
theorem zsh_w3 (w : World) (s : Bool) (p : Option Addr) (n c : Nat) (xs : List Nat) (z : Int) (h : Sl w p n c xs) (A : Int) (eA : sg s (val xs) = A) (hn : n ≤ 1048576) (hz0 : -9223372036854775808 ≤ z) (hz9 : z ≤ 9223372036854775807) (hz : z < 0) (hz2 : -65536 ≤ z) (hA : A.sign < 0) (hle : 1 ≤ val xs) :
    Calls Try.prog 9 #[.agg #[.bool s, .slice p n c], .int .i64 z] w (Gives (TWO (ZN (sg true ((val xs - 1) / 2 ^ (-z).toNat + 1))) (IS (.int .i64 0))) w) := by
  refine calls_sta (sl := [(0, (Zx s p n c xs)), (1, (Is (.int .i64 z)))]) Try.func9 rfl Try.ntmps9 (by simp) (args_cons rfl (zx_has h) (args_cons rfl (is_has _) args_nil)) ?_
  intro a0 S0
  refine wp_stmt_seq [.new (.box 24 (Zx s p n c xs)),
      .new (.box 24 (Is (.agg #[.bool false, .slice none 0 0]))),
      .val (Is (.int .i64 0))] [.inl 0, .inl 1] [.inl 2, .inr 1] follows S0 rfl (by kernel_rfl) ?_ ?_
  · refine ⟨⟨⟨trivial, ?_⟩, ?_⟩, ?_⟩
    · exact owe_box rfl (wants_all rfl) rfl (opnd_slot 0 0 rfl (by kernel_rfl)) rfl (fun ρ w h => box_int shp_zx ρ _ _ w h)
    · exact owe_new rfl (wants_all rfl) rfl rfl (fun ρ w => alloc_int ρ _ w)
    · exact owe_move rfl (wants_all rfl) (Or.inr rfl) (opnd_const _) rfl
  intro B1 a1 W1 S1
  replace S1 : Sta w 47 [(2, (.box 24 (Zx s p n c xs))), (4, (.box 24 (Is (.agg #[.bool false, .slice none 0 0]))))] [(5, (Is (.int .i64 0))), (1, (Is (.int .i64 z)))] B1 a1 W1 := S1
  refine wp_seq ?_
  refine wp_block ?_
  refine wp_stmt_seq [.val (Is (.int .i64 z)),
      .val (Is (.bool false)),
      .val (Is (.bool false)),
      .val (Is (.int .i64 z)),
      .val (Is (.bool false)),
      .val (Is (.bool false)),
      .val (Is (.bool false))] [.inr 0, .inr 1] [.inl 6, .inr 0, .inr 1] follows S1 rfl (by kernel_rfl) ?_ ?_
  · refine ⟨⟨⟨⟨⟨⟨⟨trivial, ?_⟩, ?_⟩, ?_⟩, ?_⟩, ?_⟩, ?_⟩, ?_⟩
    · exact owe_move rfl (wants_all rfl) (Or.inl rfl) (opnd_slot 1 1 rfl (by kernel_rfl)) rfl
    · exact owe_bin rfl (wants_all rfl) rfl (opnd_op 0 9 (by kernel_rfl) rfl) (opnd_const _) rfl (fun ρ w h1 h2 => by exact run_gtr_int_f ρ _ _ _ w _ _ (by omega) h1 h2)
    · exact owe_move rfl (wants_all rfl) (Or.inl rfl) (opnd_op 1 10 (by kernel_rfl) rfl) rfl
    · exact owe_move rfl (wants_if 2 11 rfl (by kernel_rfl) rfl) (Or.inl rfl) (opnd_slot 1 1 rfl (by kernel_rfl)) rfl
    · exact owe_bin rfl (wants_if 2 11 rfl (by kernel_rfl) rfl) rfl (opnd_op 3 12 (by kernel_rfl) rfl) (opnd_const _) rfl (fun ρ w h1 h2 => by exact run_lss_int_f ρ _ _ _ w _ _ (by omega) h1 h2)
    · exact owe_pick rfl (wants_all rfl) rfl (opnd_op 2 11 (by kernel_rfl) rfl) (fun h => nomatch h) (fun _ => (opnd_op 4 13 (by kernel_rfl) rfl)) rfl
    · exact owe_move rfl (wants_all rfl) (Or.inr rfl) (opnd_op 5 14 (by kernel_rfl) rfl) rfl
  intro B2 a2 W2 S2
  replace S2 : Sta w 47 [(2, (.box 24 (Zx s p n c xs))), (4, (.box 24 (Is (.agg #[.bool false, .slice none 0 0]))))] [(8, (Is (.bool false))), (5, (Is (.int .i64 0))), (1, (Is (.int .i64 z)))] B2 a2 W2 := S2
  refine wp_cond_false (S2.bool 0 8 rfl) ?_
  refine wp_stmt_seq [.val (Is (.int .i64 z)),
      .val (Is (.bool false)),
      .val (Is (.bool false))] [.inr 0, .inr 1] [.inl 2, .inr 0, .inr 1, .inr 2] follows S2 rfl (by kernel_rfl) ?_ ?_
  · refine ⟨⟨⟨trivial, ?_⟩, ?_⟩, ?_⟩
    · exact owe_move rfl (wants_all rfl) (Or.inl rfl) (opnd_slot 2 1 rfl (by kernel_rfl)) rfl
    · exact owe_bin rfl (wants_all rfl) rfl (opnd_op 0 17 (by kernel_rfl) rfl) (opnd_const _) rfl (fun ρ w h1 h2 => by exact run_geq_int_f ρ _ _ _ w _ _ hz h1 h2)
    · exact owe_move rfl (wants_all rfl) (Or.inr rfl) (opnd_op 1 18 (by kernel_rfl) rfl) rfl
  intro B3 a3 W3 S3
  replace S3 : Sta w 47 [(2, (.box 24 (Zx s p n c xs))), (4, (.box 24 (Is (.agg #[.bool false, .slice none 0 0]))))] [(16, (Is (.bool false))), (8, (Is (.bool false))), (5, (Is (.int .i64 0))), (1, (Is (.int .i64 z)))] B3 a3 W3 := S3
  refine wp_cond_false (S3.bool 0 16 rfl) ?_
  refine wp_stmt_seq [.val (Zx s p n c xs),
      .val (Is (.int .i64 (A).sign)),
      .val (Is (.bool true)),
      .val (Is (.bool true))] [.inr 0, .inr 1] [.inl 3, .inr 0, .inr 1, .inr 2, .inr 3] follows S3 rfl (by kernel_rfl) ?_ ?_
  · refine ⟨⟨⟨⟨trivial, ?_⟩, ?_⟩, ?_⟩, ?_⟩
    · exact owe_load rfl (wants_all rfl) rfl (k := 0) rfl (by kernel_rfl) (loads_of strct_int shp_zx) rfl
    · exact owe_call1 rfl (wants_all rfl) rfl (opnd_op 0 27 (by kernel_rfl) rfl) (fresh_is _) rfl (fun args w => by go_simp) (fun w u h1 => g_zsign (by omega) w u ((zx_zv' eA (Nat.le_refl _)) _ _ h1))
    · exact owe_bin rfl (wants_all rfl) rfl (opnd_op 1 28 (by kernel_rfl) rfl) (opnd_const _) rfl (fun ρ w h1 h2 => by exact run_lss_int_t ρ _ _ _ w _ _ hA h1 h2)
    · exact owe_move rfl (wants_all rfl) (Or.inr rfl) (opnd_op 2 29 (by kernel_rfl) rfl) rfl
  intro B4 a4 W4 S4
  replace S4 : Sta w 47 [(2, (.box 24 (Zx s p n c xs))), (4, (.box 24 (Is (.agg #[.bool false, .slice none 0 0]))))] [(26, (Is (.bool true))), (16, (Is (.bool false))), (8, (Is (.bool false))), (5, (Is (.int .i64 0))), (1, (Is (.int .i64 z)))] B4 a4 W4 := S4
  refine wp_cond_true (S4.bool 0 26 rfl) ?_
  refine wp_stmt_seq [.val (Part a4 2 1),
      .val (Nx p n c xs),
      .val (Is (.int .i64 z)),
      .val (Is (.int .i64 (-z))),
      .val ((NN ((val xs - 1) / 2 ^ (-z).toNat + 1)) w.heap.size),
      .val ((ZN (sg true ((val xs - 1) / 2 ^ (-z).toNat + 1))) w.heap.size),
      .put (.inl 4) (.box 24 ((ZN (sg true ((val xs - 1) / 2 ^ (-z).toNat + 1))) w.heap.size)),
      .val (Is (.int .i64 0))] [.inr 0, .inr 1] [.inl 7, .inr 0, .inr 1, .inr 2, .inr 4] follows S4 rfl (by kernel_rfl) ?_ ?_
  · refine ⟨⟨⟨⟨⟨⟨⟨⟨trivial, ?_⟩, ?_⟩, ?_⟩, ?_⟩, ?_⟩, ?_⟩, ?_⟩, ?_⟩
    · exact owe_part rfl (wants_all rfl) rfl (k := 0) rfl (by kernel_rfl) rfl (fun ρ w b h => part_int1 ρ _ _ w b 0 h)
    · exact owe_pload rfl (wants_all rfl) rfl (opnd_op 0 30 (by kernel_rfl) rfl) (k := 0) rfl (by kernel_rfl) rfl (fun ρ w b u h1 h2 h3 => pload_mag zx_mag ρ _ _ w b u h1 h2 h3)
    · exact owe_move rfl (wants_all rfl) (Or.inl rfl) (opnd_slot 4 1 rfl (by kernel_rfl)) rfl
    · exact owe_un (x := .tmp 32) rfl (wants_all rfl) rfl (opnd_op 2 32 (by kernel_rfl) rfl) rfl (fun ρ w h1 => run_neg_int ρ _ _ w _ _ ⟨rfl, by omega, by omega⟩ h1)
    · exact owe_call2 rfl (wants_all rfl) rfl (opnd_op 1 31 (by kernel_rfl) rfl) (opnd_op 3 33 (by kernel_rfl) rfl) (fresh_nn _) rfl (fun args w => by go_simp) (fun w u v h1 h2 => g_dab (by omega) (by omega) (by omega) hle w u v ((nx_nv (Nat.le_refl _)) _ _ h1) h2)
    · exact owe_callF2 rfl (wants_all rfl) rfl (opnd_const _) (opnd_op 4 34 (by kernel_rfl) rfl) rfl (fun args w => by go_simp) g_signed
    · exact owe_set rfl (wants_all rfl) rfl (k := 1) rfl (by kernel_rfl) (opnd_op 5 35 (by kernel_rfl) rfl) (stores_of strct_int shp_z0 shp_zn) rfl
    · exact owe_move rfl (wants_all rfl) (Or.inr rfl) (opnd_const _) rfl
  intro B5 a5 W5 S5
  replace S5 : Sta w 47 [(2, (.box 24 (Zx s p n c xs))), (4, (.box 24 ((ZN (sg true ((val xs - 1) / 2 ^ (-z).toNat + 1))) w.heap.size)))] [(5, (Is (.int .i64 0))), (26, (Is (.bool true))), (16, (Is (.bool false))), (8, (Is (.bool false))), (1, (Is (.int .i64 z)))] B5 a5 W5 := S5
  refine wp_ret ?_
  refine inBlkR ?_
  refine thenR ?_
  exact end_two S5 rfl (res_cell S5 1 4 rfl strct_int shp_zn) (res_tmp S5 0 5 rfl)

set_option maxHeartbeats 400000 in
theorem zsh_w4 (w : World) (s : Bool) (p : Option Addr) (n c : Nat) (xs : List Nat) (z : Int) (h : Sl w p n c xs) (A : Int) (eA : sg s (val xs) = A) (hn : n ≤ 1048576) (hz0 : -9223372036854775808 ≤ z) (hz9 : z ≤ 9223372036854775807) (hz : z < 0) (hz2 : -65536 ≤ z) (hA : 0 ≤ A.sign) :
    Calls Try.prog 9 #[.agg #[.bool s, .slice p n c], .int .i64 z] w (Gives (TWO (ZN (sg false (val xs / 2 ^ (-z).toNat))) (IS (.int .i64 0))) w) := by
  refine calls_sta (sl := [(0, (Zx s p n c xs)), (1, (Is (.int .i64 z)))]) Try.func9 rfl Try.ntmps9 (by simp) (args_cons rfl (zx_has h) (args_cons rfl (is_has _) args_nil)) ?_
  intro a0 S0
  refine wp_stmt_seq [.new (.box 24 (Zx s p n c xs)),
      .new (.box 24 (Is (.agg #[.bool false, .slice none 0 0]))),
      .val (Is (.int .i64 0))] [.inl 0, .inl 1] [.inl 2, .inr 1] follows S0 rfl (by kernel_rfl) ?_ ?_
  · refine ⟨⟨⟨trivial, ?_⟩, ?_⟩, ?_⟩
    · exact owe_box rfl (wants_all rfl) rfl (opnd_slot 0 0 rfl (by kernel_rfl)) rfl (fun ρ w h => box_int shp_zx ρ _ _ w h)
    · exact owe_new rfl (wants_all rfl) rfl rfl (fun ρ w => alloc_int ρ _ w)
    · exact owe_move rfl (wants_all rfl) (Or.inr rfl) (opnd_const _) rfl
  intro B1 a1 W1 S1
  replace S1 : Sta w 47 [(2, (.box 24 (Zx s p n c xs))), (4, (.box 24 (Is (.agg #[.bool false, .slice none 0 0]))))] [(5, (Is (.int .i64 0))), (1, (Is (.int .i64 z)))] B1 a1 W1 := S1
  refine wp_seq ?_
  refine wp_block ?_
  refine wp_stmt_seq [.val (Is (.int .i64 z)),
      .val (Is (.bool false)),
      .val (Is (.bool false)),
      .val (Is (.int .i64 z)),
      .val (Is (.bool false)),
      .val (Is (.bool false)),
      .val (Is (.bool false))] [.inr 0, .inr 1] [.inl 6, .inr 0, .inr 1] follows S1 rfl (by kernel_rfl) ?_ ?_
  · refine ⟨⟨⟨⟨⟨⟨⟨trivial, ?_⟩, ?_⟩, ?_⟩, ?_⟩, ?_⟩, ?_⟩, ?_⟩
    · exact owe_move rfl (wants_all rfl) (Or.inl rfl) (opnd_slot 1 1 rfl (by kernel_rfl)) rfl
    · exact owe_bin rfl (wants_all rfl) rfl (opnd_op 0 9 (by kernel_rfl) rfl) (opnd_const _) rfl (fun ρ w h1 h2 => by exact run_gtr_int_f ρ _ _ _ w _ _ (by omega) h1 h2)
    · exact owe_move rfl (wants_all rfl) (Or.inl rfl) (opnd_op 1 10 (by kernel_rfl) rfl) rfl
    · exact owe_move rfl (wants_if 2 11 rfl (by kernel_rfl) rfl) (Or.inl rfl) (opnd_slot 1 1 rfl (by kernel_rfl)) rfl
    · exact owe_bin rfl (wants_if 2 11 rfl (by kernel_rfl) rfl) rfl (opnd_op 3 12 (by kernel_rfl) rfl) (opnd_const _) rfl (fun ρ w h1 h2 => by exact run_lss_int_f ρ _ _ _ w _ _ (by omega) h1 h2)
    · exact owe_pick rfl (wants_all rfl) rfl (opnd_op 2 11 (by kernel_rfl) rfl) (fun h => nomatch h) (fun _ => (opnd_op 4 13 (by kernel_rfl) rfl)) rfl
    · exact owe_move rfl (wants_all rfl) (Or.inr rfl) (opnd_op 5 14 (by kernel_rfl) rfl) rfl
  intro B2 a2 W2 S2
  replace S2 : Sta w 47 [(2, (.box 24 (Zx s p n c xs))), (4, (.box 24 (Is (.agg #[.bool false, .slice none 0 0]))))] [(8, (Is (.bool false))), (5, (Is (.int .i64 0))), (1, (Is (.int .i64 z)))] B2 a2 W2 := S2
  refine wp_cond_false (S2.bool 0 8 rfl) ?_
  refine wp_stmt_seq [.val (Is (.int .i64 z)),
      .val (Is (.bool false)),
      .val (Is (.bool false))] [.inr 0, .inr 1] [.inl 2, .inr 0, .inr 1, .inr 2] follows S2 rfl (by kernel_rfl) ?_ ?_
  · refine ⟨⟨⟨trivial, ?_⟩, ?_⟩, ?_⟩
    · exact owe_move rfl (wants_all rfl) (Or.inl rfl) (opnd_slot 2 1 rfl (by kernel_rfl)) rfl
    · exact owe_bin rfl (wants_all rfl) rfl (opnd_op 0 17 (by kernel_rfl) rfl) (opnd_const _) rfl (fun ρ w h1 h2 => by exact run_geq_int_f ρ _ _ _ w _ _ hz h1 h2)
    · exact owe_move rfl (wants_all rfl) (Or.inr rfl) (opnd_op 1 18 (by kernel_rfl) rfl) rfl
  intro B3 a3 W3 S3
  replace S3 : Sta w 47 [(2, (.box 24 (Zx s p n c xs))), (4, (.box 24 (Is (.agg #[.bool false, .slice none 0 0]))))] [(16, (Is (.bool false))), (8, (Is (.bool false))), (5, (Is (.int .i64 0))), (1, (Is (.int .i64 z)))] B3 a3 W3 := S3
  refine wp_cond_false (S3.bool 0 16 rfl) ?_
  refine wp_stmt_seq [.val (Zx s p n c xs),
      .val (Is (.int .i64 (A).sign)),
      .val (Is (.bool false)),
      .val (Is (.bool false))] [.inr 0, .inr 1] [.inl 3, .inr 0, .inr 1, .inr 2, .inr 3] follows S3 rfl (by kernel_rfl) ?_ ?_
  · refine ⟨⟨⟨⟨trivial, ?_⟩, ?_⟩, ?_⟩, ?_⟩
    · exact owe_load rfl (wants_all rfl) rfl (k := 0) rfl (by kernel_rfl) (loads_of strct_int shp_zx) rfl
    · exact owe_call1 rfl (wants_all rfl) rfl (opnd_op 0 27 (by kernel_rfl) rfl) (fresh_is _) rfl (fun args w => by go_simp) (fun w u h1 => g_zsign (by omega) w u ((zx_zv' eA (Nat.le_refl _)) _ _ h1))
    · exact owe_bin rfl (wants_all rfl) rfl (opnd_op 1 28 (by kernel_rfl) rfl) (opnd_const _) rfl (fun ρ w h1 h2 => by exact run_lss_int_f ρ _ _ _ w _ _ hA h1 h2)
    · exact owe_move rfl (wants_all rfl) (Or.inr rfl) (opnd_op 2 29 (by kernel_rfl) rfl) rfl
  intro B4 a4 W4 S4
  replace S4 : Sta w 47 [(2, (.box 24 (Zx s p n c xs))), (4, (.box 24 (Is (.agg #[.bool false, .slice none 0 0]))))] [(26, (Is (.bool false))), (16, (Is (.bool false))), (8, (Is (.bool false))), (5, (Is (.int .i64 0))), (1, (Is (.int .i64 z)))] B4 a4 W4 := S4
  refine wp_cond_false (S4.bool 0 26 rfl) ?_
  refine wp_skip ?_
  refine inBlkN ?_
  refine thenN ?_
  refine wp_stmt_seq [.val (Part a4 2 1),
      .val (Nx p n c xs),
      .val (Is (.int .i64 z)),
      .val (Is (.int .i64 (-z))),
      .val ((TWO (NN (val xs / 2 ^ (-z).toNat)) (IS (.int .i64 0))) w.heap.size),
      .val ((TWO (NN (val xs / 2 ^ (-z).toNat)) (IS (.int .i64 0))) w.heap.size),
      .val ((NN (val xs / 2 ^ (-z).toNat)) w.heap.size),
      .val (Is (.int .i64 0)),
      .val ((NN (val xs / 2 ^ (-z).toNat)) w.heap.size),
      .val (Is (.int .i64 0))] [.inr 0, .inr 1] [.inl 8, .inl 9, .inr 0, .inr 1, .inr 2, .inr 3, .inr 4] follows S4 rfl (by kernel_rfl) ?_ ?_
  · refine ⟨⟨⟨⟨⟨⟨⟨⟨⟨⟨trivial, ?_⟩, ?_⟩, ?_⟩, ?_⟩, ?_⟩, ?_⟩, ?_⟩, ?_⟩, ?_⟩, ?_⟩
    · exact owe_part rfl (wants_all rfl) rfl (k := 0) rfl (by kernel_rfl) rfl (fun ρ w b h => part_int1 ρ _ _ w b 0 h)
    · exact owe_pload rfl (wants_all rfl) rfl (opnd_op 0 37 (by kernel_rfl) rfl) (k := 0) rfl (by kernel_rfl) rfl (fun ρ w b u h1 h2 h3 => pload_mag zx_mag ρ _ _ w b u h1 h2 h3)
    · exact owe_move rfl (wants_all rfl) (Or.inl rfl) (opnd_slot 4 1 rfl (by kernel_rfl)) rfl
    · exact owe_un (x := .tmp 39) rfl (wants_all rfl) rfl (opnd_op 2 39 (by kernel_rfl) rfl) rfl (fun ρ w h1 => run_neg_int ρ _ _ w _ _ ⟨rfl, by omega, by omega⟩ h1)
    · exact owe_call2 rfl (wants_all rfl) rfl (opnd_op 1 38 (by kernel_rfl) rfl) (opnd_op 3 40 (by kernel_rfl) rfl) (fresh_two (fresh_nn _) (fresh_is _)) rfl (fun args w => by go_simp) (fun w u v h1 h2 => g_shr (by omega) (by omega) (by omega) w u v ((nx_nv (Nat.le_refl _)) _ _ h1) h2)
    · exact owe_move rfl (wants_all rfl) (Or.inl rfl) (opnd_op 4 41 (by kernel_rfl) rfl) rfl
    · exact owe_ext2 rfl (wants_all rfl) rfl (opnd_op 5 36 (by kernel_rfl) rfl) (Or.inl ⟨rfl, rfl⟩) rfl
    · exact owe_ext2 rfl (wants_all rfl) rfl (opnd_op 5 36 (by kernel_rfl) rfl) (Or.inr ⟨rfl, rfl⟩) rfl
    · exact owe_move rfl (wants_all rfl) (Or.inr rfl) (opnd_op 6 42 (by kernel_rfl) rfl) rfl
    · exact owe_move rfl (wants_all rfl) (Or.inr rfl) (opnd_op 7 43 (by kernel_rfl) rfl) rfl
  intro B5 a5 W5 S5
  replace S5 : Sta w 47 [(2, (.box 24 (Zx s p n c xs))), (4, (.box 24 (Is (.agg #[.bool false, .slice none 0 0]))))] [(6, ((NN (val xs / 2 ^ (-z).toNat)) w.heap.size)), (7, (Is (.int .i64 0))), (26, (Is (.bool false))), (16, (Is (.bool false))), (8, (Is (.bool false))), (5, (Is (.int .i64 0))), (1, (Is (.int .i64 z)))] B5 a5 W5 := S5
  refine wp_stmt_seq [.val ((NN (val xs / 2 ^ (-z).toNat)) w.heap.size),
      .val ((ZN (sg false (val xs / 2 ^ (-z).toNat))) w.heap.size),
      .val (Is (.int .i64 0)),
      .put (.inl 4) (.box 24 ((ZN (sg false (val xs / 2 ^ (-z).toNat))) w.heap.size)),
      .val (Is (.int .i64 0))] [.inr 0, .inr 1] [.inl 4, .inr 2, .inr 3, .inr 4, .inr 6] follows S5 rfl (by kernel_rfl) ?_ ?_
  · refine ⟨⟨⟨⟨⟨trivial, ?_⟩, ?_⟩, ?_⟩, ?_⟩, ?_⟩
    · exact owe_move rfl (wants_all rfl) (Or.inl rfl) (opnd_slot 0 6 rfl (by kernel_rfl)) rfl
    · exact owe_callF2 rfl (wants_all rfl) rfl (opnd_const _) (opnd_op 0 44 (by kernel_rfl) rfl) rfl (fun args w => by go_simp) g_signed
    · exact owe_move rfl (wants_all rfl) (Or.inl rfl) (opnd_slot 1 7 rfl (by kernel_rfl)) rfl
    · exact owe_set rfl (wants_all rfl) rfl (k := 1) rfl (by kernel_rfl) (opnd_op 1 45 (by kernel_rfl) rfl) (stores_of strct_int shp_z0 shp_zn) rfl
    · exact owe_move rfl (wants_all rfl) (Or.inr rfl) (opnd_op 2 46 (by kernel_rfl) rfl) rfl
  intro B6 a6 W6 S6
  replace S6 : Sta w 47 [(2, (.box 24 (Zx s p n c xs))), (4, (.box 24 ((ZN (sg false (val xs / 2 ^ (-z).toNat))) w.heap.size)))] [(5, (Is (.int .i64 0))), (26, (Is (.bool false))), (16, (Is (.bool false))), (8, (Is (.bool false))), (1, (Is (.int .i64 z)))] B6 a6 W6 := S6
  refine wp_ret ?_
  exact end_two S6 rfl (res_cell S6 1 4 rfl strct_int shp_zn) (res_tmp S6 0 5 rfl)

set_option maxHeartbeats 400000 in
theorem rsh_w0 (w : World) (s : Bool) (p : Option Addr) (n c : Nat) (xs : List Nat) (z : Int) (h : Sl w p n c xs) (A : Int) (eA : sg s (val xs) = A) (hn : n ≤ 1048576) (hz0 : -9223372036854775808 ≤ z) (hz9 : z ≤ 9223372036854775807) (hl : 65536 < z) :
    Calls Try.prog 10 #[.agg #[.bool s, .slice p n c], .int .i64 z] w (Gives (TWO (IS (.agg #[.bool false, .slice none 0 0])) (IS (.int .i64 2))) w) := by
  refine calls_sta (sl := [(0, (Zx s p n c xs)), (1, (Is (.int .i64 z)))]) Try.func10 rfl Try.ntmps10 (by simp) (args_cons rfl (zx_has h) (args_cons rfl (is_has _) args_nil)) ?_
  intro a0 S0
  refine wp_stmt_seq [.new (.box 24 (Zx s p n c xs)),
      .new (.box 24 (Is (.agg #[.bool false, .slice none 0 0]))),
      .val (Is (.int .i64 0))] [.inl 0, .inl 1] [.inl 2, .inr 1] follows S0 rfl (by kernel_rfl) ?_ ?_
  · refine ⟨⟨⟨trivial, ?_⟩, ?_⟩, ?_⟩
    · exact owe_box rfl (wants_all rfl) rfl (opnd_slot 0 0 rfl (by kernel_rfl)) rfl (fun ρ w h => box_int shp_zx ρ _ _ w h)
    · exact owe_new rfl (wants_all rfl) rfl rfl (fun ρ w => alloc_int ρ _ w)
    · exact owe_move rfl (wants_all rfl) (Or.inr rfl) (opnd_const _) rfl
  intro B1 a1 W1 S1
  replace S1 : Sta w 32 [(2, (.box 24 (Zx s p n c xs))), (4, (.box 24 (Is (.agg #[.bool false, .slice none 0 0]))))] [(5, (Is (.int .i64 0))), (1, (Is (.int .i64 z)))] B1 a1 W1 := S1
  refine wp_seq ?_
  refine wp_block ?_
  refine wp_stmt_seq [.val (Is (.int .i64 z)),
      .val (Is (.bool true)),
      .val (Is (.bool true)),
      .off,
      .off,
      .val (Is (.bool true)),
      .val (Is (.bool true))] [.inr 0, .inr 1] [.inl 6, .inr 0, .inr 1] follows S1 rfl (by kernel_rfl) ?_ ?_
  · refine ⟨⟨⟨⟨⟨⟨⟨trivial, ?_⟩, ?_⟩, ?_⟩, ?_⟩, ?_⟩, ?_⟩, ?_⟩
    · exact owe_move rfl (wants_all rfl) (Or.inl rfl) (opnd_slot 1 1 rfl (by kernel_rfl)) rfl
    · exact owe_bin rfl (wants_all rfl) rfl (opnd_op 0 9 (by kernel_rfl) rfl) (opnd_const _) rfl (fun ρ w h1 h2 => by exact run_gtr_int_t ρ _ _ _ w _ _ hl h1 h2)
    · exact owe_move rfl (wants_all rfl) (Or.inl rfl) (opnd_op 1 10 (by kernel_rfl) rfl) rfl
    · exact owe_off 2 11 rfl rfl rfl (by kernel_rfl) rfl (by decide)
    · exact owe_off 2 11 rfl rfl rfl (by kernel_rfl) rfl (by decide)
    · exact owe_pick rfl (wants_all rfl) rfl (opnd_op 2 11 (by kernel_rfl) rfl) (fun _ => (opnd_const _)) (fun h => nomatch h) rfl
    · exact owe_move rfl (wants_all rfl) (Or.inr rfl) (opnd_op 5 14 (by kernel_rfl) rfl) rfl
  intro B2 a2 W2 S2
  replace S2 : Sta w 32 [(2, (.box 24 (Zx s p n c xs))), (4, (.box 24 (Is (.agg #[.bool false, .slice none 0 0]))))] [(8, (Is (.bool true))), (5, (Is (.int .i64 0))), (1, (Is (.int .i64 z)))] B2 a2 W2 := S2
  refine wp_cond_true (S2.bool 0 8 rfl) ?_
  refine wp_stmt_seq [.val (Is (.agg #[.bool false, .slice none 0 0])),
      .put (.inl 4) (.box 24 (Is (.agg #[.bool false, .slice none 0 0]))),
      .val (Is (.int .i64 2))] [.inr 0, .inr 1] [.inl 2, .inr 0, .inr 2] follows S2 rfl (by kernel_rfl) ?_ ?_
  · refine ⟨⟨⟨trivial, ?_⟩, ?_⟩, ?_⟩
    · exact owe_build_int rfl (wants_all rfl) rfl rfl
    · exact owe_set rfl (wants_all rfl) rfl (k := 1) rfl (by kernel_rfl) (opnd_op 0 15 (by kernel_rfl) rfl) (stores_of strct_int shp_z0 shp_z0) rfl
    · exact owe_move rfl (wants_all rfl) (Or.inr rfl) (opnd_const _) rfl
  intro B3 a3 W3 S3
  replace S3 : Sta w 32 [(2, (.box 24 (Zx s p n c xs))), (4, (.box 24 (Is (.agg #[.bool false, .slice none 0 0]))))] [(5, (Is (.int .i64 2))), (8, (Is (.bool true))), (1, (Is (.int .i64 z)))] B3 a3 W3 := S3
  refine wp_ret ?_
  refine inBlkR ?_
  refine thenR ?_
  exact end_two S3 rfl (res_cell S3 1 4 rfl strct_int shp_z0) (res_tmp S3 0 5 rfl)

set_option maxHeartbeats 400000 in
theorem rsh_w1 (w : World) (s : Bool) (p : Option Addr) (n c : Nat) (xs : List Nat) (z : Int) (h : Sl w p n c xs) (A : Int) (eA : sg s (val xs) = A) (hn : n ≤ 1048576) (hz0 : -9223372036854775808 ≤ z) (hz9 : z ≤ 9223372036854775807) (hl : z < -65536) :
    Calls Try.prog 10 #[.agg #[.bool s, .slice p n c], .int .i64 z] w (Gives (TWO (IS (.agg #[.bool false, .slice none 0 0])) (IS (.int .i64 2))) w) := by
  refine calls_sta (sl := [(0, (Zx s p n c xs)), (1, (Is (.int .i64 z)))]) Try.func10 rfl Try.ntmps10 (by simp) (args_cons rfl (zx_has h) (args_cons rfl (is_has _) args_nil)) ?_
  intro a0 S0
  refine wp_stmt_seq [.new (.box 24 (Zx s p n c xs)),
      .new (.box 24 (Is (.agg #[.bool false, .slice none 0 0]))),
      .val (Is (.int .i64 0))] [.inl 0, .inl 1] [.inl 2, .inr 1] follows S0 rfl (by kernel_rfl) ?_ ?_
  · refine ⟨⟨⟨trivial, ?_⟩, ?_⟩, ?_⟩
    · exact owe_box rfl (wants_all rfl) rfl (opnd_slot 0 0 rfl (by kernel_rfl)) rfl (fun ρ w h => box_int shp_zx ρ _ _ w h)
    · exact owe_new rfl (wants_all rfl) rfl rfl (fun ρ w => alloc_int ρ _ w)
    · exact owe_move rfl (wants_all rfl) (Or.inr rfl) (opnd_const _) rfl
  intro B1 a1 W1 S1
  replace S1 : Sta w 32 [(2, (.box 24 (Zx s p n c xs))), (4, (.box 24 (Is (.agg #[.bool false, .slice none 0 0]))))] [(5, (Is (.int .i64 0))), (1, (Is (.int .i64 z)))] B1 a1 W1 := S1
  refine wp_seq ?_
  refine wp_block ?_
  refine wp_stmt_seq [.val (Is (.int .i64 z)),
      .val (Is (.bool false)),
      .val (Is (.bool false)),
      .val (Is (.int .i64 z)),
      .val (Is (.bool true)),
      .val (Is (.bool true)),
      .val (Is (.bool true))] [.inr 0, .inr 1] [.inl 6, .inr 0, .inr 1] follows S1 rfl (by kernel_rfl) ?_ ?_
  · refine ⟨⟨⟨⟨⟨⟨⟨trivial, ?_⟩, ?_⟩, ?_⟩, ?_⟩, ?_⟩, ?_⟩, ?_⟩
    · exact owe_move rfl (wants_all rfl) (Or.inl rfl) (opnd_slot 1 1 rfl (by kernel_rfl)) rfl
    · exact owe_bin rfl (wants_all rfl) rfl (opnd_op 0 9 (by kernel_rfl) rfl) (opnd_const _) rfl (fun ρ w h1 h2 => by exact run_gtr_int_f ρ _ _ _ w _ _ (by omega) h1 h2)
    · exact owe_move rfl (wants_all rfl) (Or.inl rfl) (opnd_op 1 10 (by kernel_rfl) rfl) rfl
    · exact owe_move rfl (wants_if 2 11 rfl (by kernel_rfl) rfl) (Or.inl rfl) (opnd_slot 1 1 rfl (by kernel_rfl)) rfl
    · exact owe_bin rfl (wants_if 2 11 rfl (by kernel_rfl) rfl) rfl (opnd_op 3 12 (by kernel_rfl) rfl) (opnd_const _) rfl (fun ρ w h1 h2 => by exact run_lss_int_t ρ _ _ _ w _ _ hl h1 h2)
    · exact owe_pick rfl (wants_all rfl) rfl (opnd_op 2 11 (by kernel_rfl) rfl) (fun h => nomatch h) (fun _ => (opnd_op 4 13 (by kernel_rfl) rfl)) rfl
    · exact owe_move rfl (wants_all rfl) (Or.inr rfl) (opnd_op 5 14 (by kernel_rfl) rfl) rfl
  intro B2 a2 W2 S2
  replace S2 : Sta w 32 [(2, (.box 24 (Zx s p n c xs))), (4, (.box 24 (Is (.agg #[.bool false, .slice none 0 0]))))] [(8, (Is (.bool true))), (5, (Is (.int .i64 0))), (1, (Is (.int .i64 z)))] B2 a2 W2 := S2
  refine wp_cond_true (S2.bool 0 8 rfl) ?_
  refine wp_stmt_seq [.val (Is (.agg #[.bool false, .slice none 0 0])),
      .put (.inl 4) (.box 24 (Is (.agg #[.bool false, .slice none 0 0]))),
      .val (Is (.int .i64 2))] [.inr 0, .inr 1] [.inl 2, .inr 0, .inr 2] follows S2 rfl (by kernel_rfl) ?_ ?_
  · refine ⟨⟨⟨trivial, ?_⟩, ?_⟩, ?_⟩
    · exact owe_build_int rfl (wants_all rfl) rfl rfl
    · exact owe_set rfl (wants_all rfl) rfl (k := 1) rfl (by kernel_rfl) (opnd_op 0 15 (by kernel_rfl) rfl) (stores_of strct_int shp_z0 shp_z0) rfl
    · exact owe_move rfl (wants_all rfl) (Or.inr rfl) (opnd_const _) rfl
  intro B3 a3 W3 S3
  replace S3 : Sta w 32 [(2, (.box 24 (Zx s p n c xs))), (4, (.box 24 (Is (.agg #[.bool false, .slice none 0 0]))))] [(5, (Is (.int .i64 2))), (8, (Is (.bool true))), (1, (Is (.int .i64 z)))] B3 a3 W3 := S3
  refine wp_ret ?_
  refine inBlkR ?_
  refine thenR ?_
  exact end_two S3 rfl (res_cell S3 1 4 rfl strct_int shp_z0) (res_tmp S3 0 5 rfl)

set_option maxHeartbeats 400000 in
theorem rsh_w2 (w : World) (s : Bool) (p : Option Addr) (n c : Nat) (xs : List Nat) (z : Int) (h : Sl w p n c xs) (A : Int) (eA : sg s (val xs) = A) (hn : n ≤ 1048576) (hz0 : -9223372036854775808 ≤ z) (hz9 : z ≤ 9223372036854775807) (hz : 0 ≤ z) (hz2 : z ≤ 65536) :
    Calls Try.prog 10 #[.agg #[.bool s, .slice p n c], .int .i64 z] w (Gives (TWO (ZN (A * 2 ^ z.toNat)) (IS (.int .i64 0))) w) := by
  have d2 : (digs ((2 : Int) ^ (z).toNat).natAbs).length ≤ 2049 := two_len (by omega)
  refine calls_sta (sl := [(0, (Zx s p n c xs)), (1, (Is (.int .i64 z)))]) Try.func10 rfl Try.ntmps10 (by simp) (args_cons rfl (zx_has h) (args_cons rfl (is_has _) args_nil)) ?_
  intro a0 S0
  refine wp_stmt_seq [.new (.box 24 (Zx s p n c xs)),
      .new (.box 24 (Is (.agg #[.bool false, .slice none 0 0]))),
      .val (Is (.int .i64 0))] [.inl 0, .inl 1] [.inl 2, .inr 1] follows S0 rfl (by kernel_rfl) ?_ ?_
  · refine ⟨⟨⟨trivial, ?_⟩, ?_⟩, ?_⟩
    · exact owe_box rfl (wants_all rfl) rfl (opnd_slot 0 0 rfl (by kernel_rfl)) rfl (fun ρ w h => box_int shp_zx ρ _ _ w h)
    · exact owe_new rfl (wants_all rfl) rfl rfl (fun ρ w => alloc_int ρ _ w)
    · exact owe_move rfl (wants_all rfl) (Or.inr rfl) (opnd_const _) rfl
  intro B1 a1 W1 S1
  replace S1 : Sta w 32 [(2, (.box 24 (Zx s p n c xs))), (4, (.box 24 (Is (.agg #[.bool false, .slice none 0 0]))))] [(5, (Is (.int .i64 0))), (1, (Is (.int .i64 z)))] B1 a1 W1 := S1
  refine wp_seq ?_
  refine wp_block ?_
  refine wp_stmt_seq [.val (Is (.int .i64 z)),
      .val (Is (.bool false)),
      .val (Is (.bool false)),
      .val (Is (.int .i64 z)),
      .val (Is (.bool false)),
      .val (Is (.bool false)),
      .val (Is (.bool false))] [.inr 0, .inr 1] [.inl 6, .inr 0, .inr 1] follows S1 rfl (by kernel_rfl) ?_ ?_
  · refine ⟨⟨⟨⟨⟨⟨⟨trivial, ?_⟩, ?_⟩, ?_⟩, ?_⟩, ?_⟩, ?_⟩, ?_⟩
    · exact owe_move rfl (wants_all rfl) (Or.inl rfl) (opnd_slot 1 1 rfl (by kernel_rfl)) rfl
    · exact owe_bin rfl (wants_all rfl) rfl (opnd_op 0 9 (by kernel_rfl) rfl) (opnd_const _) rfl (fun ρ w h1 h2 => by exact run_gtr_int_f ρ _ _ _ w _ _ (by omega) h1 h2)
    · exact owe_move rfl (wants_all rfl) (Or.inl rfl) (opnd_op 1 10 (by kernel_rfl) rfl) rfl
    · exact owe_move rfl (wants_if 2 11 rfl (by kernel_rfl) rfl) (Or.inl rfl) (opnd_slot 1 1 rfl (by kernel_rfl)) rfl
    · exact owe_bin rfl (wants_if 2 11 rfl (by kernel_rfl) rfl) rfl (opnd_op 3 12 (by kernel_rfl) rfl) (opnd_const _) rfl (fun ρ w h1 h2 => by exact run_lss_int_f ρ _ _ _ w _ _ (by omega) h1 h2)
    · exact owe_pick rfl (wants_all rfl) rfl (opnd_op 2 11 (by kernel_rfl) rfl) (fun h => nomatch h) (fun _ => (opnd_op 4 13 (by kernel_rfl) rfl)) rfl
    · exact owe_move rfl (wants_all rfl) (Or.inr rfl) (opnd_op 5 14 (by kernel_rfl) rfl) rfl
  intro B2 a2 W2 S2
  replace S2 : Sta w 32 [(2, (.box 24 (Zx s p n c xs))), (4, (.box 24 (Is (.agg #[.bool false, .slice none 0 0]))))] [(8, (Is (.bool false))), (5, (Is (.int .i64 0))), (1, (Is (.int .i64 z)))] B2 a2 W2 := S2
  refine wp_cond_false (S2.bool 0 8 rfl) ?_
  refine wp_stmt_seq [.val (Is (.int .i64 z)),
      .val (Is (.bool true)),
      .val (Is (.bool true))] [.inr 0, .inr 1] [.inl 2, .inr 0, .inr 1, .inr 2] follows S2 rfl (by kernel_rfl) ?_ ?_
  · refine ⟨⟨⟨trivial, ?_⟩, ?_⟩, ?_⟩
    · exact owe_move rfl (wants_all rfl) (Or.inl rfl) (opnd_slot 2 1 rfl (by kernel_rfl)) rfl
    · exact owe_bin rfl (wants_all rfl) rfl (opnd_op 0 17 (by kernel_rfl) rfl) (opnd_const _) rfl (fun ρ w h1 h2 => by exact run_geq_int_t ρ _ _ _ w _ _ hz h1 h2)
    · exact owe_move rfl (wants_all rfl) (Or.inr rfl) (opnd_op 1 18 (by kernel_rfl) rfl) rfl
  intro B3 a3 W3 S3
  replace S3 : Sta w 32 [(2, (.box 24 (Zx s p n c xs))), (4, (.box 24 (Is (.agg #[.bool false, .slice none 0 0]))))] [(16, (Is (.bool true))), (8, (Is (.bool false))), (5, (Is (.int .i64 0))), (1, (Is (.int .i64 z)))] B3 a3 W3 := S3
  refine wp_cond_true (S3.bool 0 16 rfl) ?_
  refine wp_stmt_seq [.val (Zx s p n c xs),
      .val (Is (.int .i64 z)),
      .val ((ZN (2 ^ (z).toNat)) w.heap.size),
      .val ((ZN (A * 2 ^ z.toNat)) w.heap.size),
      .put (.inl 4) (.box 24 ((ZN (A * 2 ^ z.toNat)) w.heap.size)),
      .val (Is (.int .i64 0))] [.inr 0, .inr 1] [.inl 5, .inr 0, .inr 1, .inr 3] follows S3 rfl (by kernel_rfl) ?_ ?_
  · refine ⟨⟨⟨⟨⟨⟨trivial, ?_⟩, ?_⟩, ?_⟩, ?_⟩, ?_⟩, ?_⟩
    · exact owe_load rfl (wants_all rfl) rfl (k := 0) rfl (by kernel_rfl) (loads_of strct_int shp_zx) rfl
    · exact owe_move rfl (wants_all rfl) (Or.inl rfl) (opnd_slot 3 1 rfl (by kernel_rfl)) rfl
    · exact owe_call1 rfl (wants_all rfl) rfl (opnd_op 1 20 (by kernel_rfl) rfl) (fresh_zn _) rfl (fun args w => by go_simp) (g_rtwo hz hz2)
    · exact owe_call2 rfl (wants_all rfl) rfl (opnd_op 0 19 (by kernel_rfl) rfl) (opnd_op 2 21 (by kernel_rfl) rfl) (fresh_zn _) rfl (fun args w => by go_simp) (fun w u0 u1 h0 h1 => Gives.cast ((fun w u v h1 h2 => g_rmul (by omega) w u v ((zx_zv' eA (Nat.le_refl _)) _ _ h1) ((zn_zv d2) _ _ h2)) w u0 u1 h0 h1) (by rfl))
    · exact owe_set rfl (wants_all rfl) rfl (k := 1) rfl (by kernel_rfl) (opnd_op 3 22 (by kernel_rfl) rfl) (stores_of strct_int shp_z0 shp_zn) rfl
    · exact owe_move rfl (wants_all rfl) (Or.inr rfl) (opnd_const _) rfl
  intro B4 a4 W4 S4
  replace S4 : Sta w 32 [(2, (.box 24 (Zx s p n c xs))), (4, (.box 24 ((ZN (A * 2 ^ z.toNat)) w.heap.size)))] [(5, (Is (.int .i64 0))), (16, (Is (.bool true))), (8, (Is (.bool false))), (1, (Is (.int .i64 z)))] B4 a4 W4 := S4
  refine wp_ret ?_
  refine inBlkR ?_
  refine thenR ?_
  exact end_two S4 rfl (res_cell S4 1 4 rfl strct_int shp_zn) (res_tmp S4 0 5 rfl)

set_option maxHeartbeats 400000 in
theorem rsh_w3 (w : World) (s : Bool) (p : Option Addr) (n c : Nat) (xs : List Nat) (z : Int) (h : Sl w p n c xs) (A : Int) (eA : sg s (val xs) = A) (hn : n ≤ 1048576) (hz0 : -9223372036854775808 ≤ z) (hz9 : z ≤ 9223372036854775807) (hz : z < 0) (hz2 : -65536 ≤ z) :
    Calls Try.prog 10 #[.agg #[.bool s, .slice p n c], .int .i64 z] w (Gives (TWO (ZN (fl A (2 ^ (-z).toNat))) (IS (.int .i64 0))) w) := by
  have d2 : (digs ((2 : Int) ^ (-z).toNat).natAbs).length ≤ 2049 := two_len (by omega)
  have hB : ((2 : Int) ^ (-z).toNat) ≠ 0 := Int.ne_of_gt (Int.pow_pos (by omega))
  refine calls_sta (sl := [(0, (Zx s p n c xs)), (1, (Is (.int .i64 z)))]) Try.func10 rfl Try.ntmps10 (by simp) (args_cons rfl (zx_has h) (args_cons rfl (is_has _) args_nil)) ?_
  intro a0 S0
  refine wp_stmt_seq [.new (.box 24 (Zx s p n c xs)),
      .new (.box 24 (Is (.agg #[.bool false, .slice none 0 0]))),
      .val (Is (.int .i64 0))] [.inl 0, .inl 1] [.inl 2, .inr 1] follows S0 rfl (by kernel_rfl) ?_ ?_
  · refine ⟨⟨⟨trivial, ?_⟩, ?_⟩, ?_⟩
    · exact owe_box rfl (wants_all rfl) rfl (opnd_slot 0 0 rfl (by kernel_rfl)) rfl (fun ρ w h => box_int shp_zx ρ _ _ w h)
    · exact owe_new rfl (wants_all rfl) rfl rfl (fun ρ w => alloc_int ρ _ w)
    · exact owe_move rfl (wants_all rfl) (Or.inr rfl) (opnd_const _) rfl
  intro B1 a1 W1 S1
  replace S1 : Sta w 32 [(2, (.box 24 (Zx s p n c xs))), (4, (.box 24 (Is (.agg #[.bool false, .slice none 0 0]))))] [(5, (Is (.int .i64 0))), (1, (Is (.int .i64 z)))] B1 a1 W1 := S1
  refine wp_seq ?_
  refine wp_block ?_
  refine wp_stmt_seq [.val (Is (.int .i64 z)),
      .val (Is (.bool false)),
      .val (Is (.bool false)),
      .val (Is (.int .i64 z)),
      .val (Is (.bool false)),
      .val (Is (.bool false)),
      .val (Is (.bool false))] [.inr 0, .inr 1] [.inl 6, .inr 0, .inr 1] follows S1 rfl (by kernel_rfl) ?_ ?_
  · refine ⟨⟨⟨⟨⟨⟨⟨trivial, ?_⟩, ?_⟩, ?_⟩, ?_⟩, ?_⟩, ?_⟩, ?_⟩
    · exact owe_move rfl (wants_all rfl) (Or.inl rfl) (opnd_slot 1 1 rfl (by kernel_rfl)) rfl
    · exact owe_bin rfl (wants_all rfl) rfl (opnd_op 0 9 (by kernel_rfl) rfl) (opnd_const _) rfl (fun ρ w h1 h2 => by exact run_gtr_int_f ρ _ _ _ w _ _ (by omega) h1 h2)
    · exact owe_move rfl (wants_all rfl) (Or.inl rfl) (opnd_op 1 10 (by kernel_rfl) rfl) rfl
    · exact owe_move rfl (wants_if 2 11 rfl (by kernel_rfl) rfl) (Or.inl rfl) (opnd_slot 1 1 rfl (by kernel_rfl)) rfl
    · exact owe_bin rfl (wants_if 2 11 rfl (by kernel_rfl) rfl) rfl (opnd_op 3 12 (by kernel_rfl) rfl) (opnd_const _) rfl (fun ρ w h1 h2 => by exact run_lss_int_f ρ _ _ _ w _ _ (by omega) h1 h2)
    · exact owe_pick rfl (wants_all rfl) rfl (opnd_op 2 11 (by kernel_rfl) rfl) (fun h => nomatch h) (fun _ => (opnd_op 4 13 (by kernel_rfl) rfl)) rfl
    · exact owe_move rfl (wants_all rfl) (Or.inr rfl) (opnd_op 5 14 (by kernel_rfl) rfl) rfl
  intro B2 a2 W2 S2
  replace S2 : Sta w 32 [(2, (.box 24 (Zx s p n c xs))), (4, (.box 24 (Is (.agg #[.bool false, .slice none 0 0]))))] [(8, (Is (.bool false))), (5, (Is (.int .i64 0))), (1, (Is (.int .i64 z)))] B2 a2 W2 := S2
  refine wp_cond_false (S2.bool 0 8 rfl) ?_
  refine wp_stmt_seq [.val (Is (.int .i64 z)),
      .val (Is (.bool false)),
      .val (Is (.bool false))] [.inr 0, .inr 1] [.inl 2, .inr 0, .inr 1, .inr 2] follows S2 rfl (by kernel_rfl) ?_ ?_
  · refine ⟨⟨⟨trivial, ?_⟩, ?_⟩, ?_⟩
    · exact owe_move rfl (wants_all rfl) (Or.inl rfl) (opnd_slot 2 1 rfl (by kernel_rfl)) rfl
    · exact owe_bin rfl (wants_all rfl) rfl (opnd_op 0 17 (by kernel_rfl) rfl) (opnd_const _) rfl (fun ρ w h1 h2 => by exact run_geq_int_f ρ _ _ _ w _ _ hz h1 h2)
    · exact owe_move rfl (wants_all rfl) (Or.inr rfl) (opnd_op 1 18 (by kernel_rfl) rfl) rfl
  intro B3 a3 W3 S3
  replace S3 : Sta w 32 [(2, (.box 24 (Zx s p n c xs))), (4, (.box 24 (Is (.agg #[.bool false, .slice none 0 0]))))] [(16, (Is (.bool false))), (8, (Is (.bool false))), (5, (Is (.int .i64 0))), (1, (Is (.int .i64 z)))] B3 a3 W3 := S3
  refine wp_cond_false (S3.bool 0 16 rfl) ?_
  refine wp_skip ?_
  refine inBlkN ?_
  refine thenN ?_
  refine wp_stmt_seq [.val (Zx s p n c xs),
      .val (Is (.int .i64 z)),
      .val (Is (.int .i64 (-z))),
      .val ((ZN (2 ^ (-z).toNat)) w.heap.size),
      .val ((TWO (ZN (fl A (2 ^ (-z).toNat))) (ZN (rm A (2 ^ (-z).toNat)))) w.heap.size),
      .val ((TWO (ZN (fl A (2 ^ (-z).toNat))) (ZN (rm A (2 ^ (-z).toNat)))) w.heap.size),
      .val ((ZN (fl A (2 ^ (-z).toNat))) w.heap.size),
      .val ((ZN (rm A (2 ^ (-z).toNat))) w.heap.size),
      .new (.box 24 (Is (.agg #[.bool false, .slice none 0 0]))),
      .new (.box 24 (Is (.agg #[.bool false, .slice none 0 0]))),
      .put (.inr 8) (.box 24 ((ZN (fl A (2 ^ (-z).toNat))) w.heap.size)),
      .put (.inr 9) (.box 24 ((ZN (rm A (2 ^ (-z).toNat))) w.heap.size))] [.inr 0, .inr 1, .inl 8, .inl 9] [.inr 0, .inr 1, .inr 2, .inr 3] follows S3 rfl (by kernel_rfl) ?_ ?_
  · refine ⟨⟨⟨⟨⟨⟨⟨⟨⟨⟨⟨⟨trivial, ?_⟩, ?_⟩, ?_⟩, ?_⟩, ?_⟩, ?_⟩, ?_⟩, ?_⟩, ?_⟩, ?_⟩, ?_⟩, ?_⟩
    · exact owe_load rfl (wants_all rfl) rfl (k := 0) rfl (by kernel_rfl) (loads_of strct_int shp_zx) rfl
    · exact owe_move rfl (wants_all rfl) (Or.inl rfl) (opnd_slot 3 1 rfl (by kernel_rfl)) rfl
    · exact owe_un (x := .tmp 25) rfl (wants_all rfl) rfl (opnd_op 1 25 (by kernel_rfl) rfl) rfl (fun ρ w h1 => run_neg_int ρ _ _ w _ _ ⟨rfl, by omega, by omega⟩ h1)
    · exact owe_call1 rfl (wants_all rfl) rfl (opnd_op 2 26 (by kernel_rfl) rfl) (fresh_zn _) rfl (fun args w => by go_simp) (g_rtwo (by omega) (by omega))
    · exact owe_call2 rfl (wants_all rfl) rfl (opnd_op 0 24 (by kernel_rfl) rfl) (opnd_op 3 27 (by kernel_rfl) rfl) (fresh_two (fresh_zn _) (fresh_zn _)) rfl (fun args w => by go_simp) (fun w u v h1 h2 => g_rfloor hB (by omega) w u v ((zx_zv' eA (Nat.le_refl _)) _ _ h1) ((zn_zv d2) _ _ h2))
    · exact owe_move rfl (wants_all rfl) (Or.inl rfl) (opnd_op 4 28 (by kernel_rfl) rfl) rfl
    · exact owe_ext2 rfl (wants_all rfl) rfl (opnd_op 5 23 (by kernel_rfl) rfl) (Or.inl ⟨rfl, rfl⟩) rfl
    · exact owe_ext2 rfl (wants_all rfl) rfl (opnd_op 5 23 (by kernel_rfl) rfl) (Or.inr ⟨rfl, rfl⟩) rfl
    · exact owe_new rfl (wants_all rfl) rfl rfl (fun ρ w => alloc_int ρ _ w)
    · exact owe_new rfl (wants_all rfl) rfl rfl (fun ρ w => alloc_int ρ _ w)
    · exact owe_put 8 rfl (wants_all rfl) rfl (by kernel_rfl) rfl (opnd_op 6 29 (by kernel_rfl) rfl) (stores_of strct_int shp_z0 shp_zn) rfl
    · exact owe_put 9 rfl (wants_all rfl) rfl (by kernel_rfl) rfl (opnd_op 7 30 (by kernel_rfl) rfl) (stores_of strct_int shp_z0 shp_zn) rfl
  intro B4 a4 W4 S4
  replace S4 : Sta w 32 [(2, (.box 24 (Zx s p n c xs))), (4, (.box 24 (Is (.agg #[.bool false, .slice none 0 0])))), (6, (.box 24 ((ZN (fl A (2 ^ (-z).toNat))) w.heap.size))), (7, (.box 24 ((ZN (rm A (2 ^ (-z).toNat))) w.heap.size)))] [(16, (Is (.bool false))), (8, (Is (.bool false))), (5, (Is (.int .i64 0))), (1, (Is (.int .i64 z)))] B4 a4 W4 := S4
  refine wp_stmt_seq [.val ((ZN (fl A (2 ^ (-z).toNat))) w.heap.size),
      .put (.inl 4) (.box 24 ((ZN (fl A (2 ^ (-z).toNat))) w.heap.size)),
      .val (Is (.int .i64 0))] [.inr 0, .inr 1, .inr 2, .inr 3] [.inl 2, .inr 0, .inr 1, .inr 3] follows S4 rfl (by kernel_rfl) ?_ ?_
  · refine ⟨⟨⟨trivial, ?_⟩, ?_⟩, ?_⟩
    · exact owe_load rfl (wants_all rfl) rfl (k := 2) rfl (by kernel_rfl) (loads_of strct_int shp_zn) rfl
    · exact owe_set rfl (wants_all rfl) rfl (k := 1) rfl (by kernel_rfl) (opnd_op 0 31 (by kernel_rfl) rfl) (stores_of strct_int shp_z0 shp_zn) rfl
    · exact owe_move rfl (wants_all rfl) (Or.inr rfl) (opnd_const _) rfl
  intro B5 a5 W5 S5
  replace S5 : Sta w 32 [(2, (.box 24 (Zx s p n c xs))), (4, (.box 24 ((ZN (fl A (2 ^ (-z).toNat))) w.heap.size))), (6, (.box 24 ((ZN (fl A (2 ^ (-z).toNat))) w.heap.size))), (7, (.box 24 ((ZN (rm A (2 ^ (-z).toNat))) w.heap.size)))] [(5, (Is (.int .i64 0))), (16, (Is (.bool false))), (8, (Is (.bool false))), (1, (Is (.int .i64 z)))] B5 a5 W5 := S5
  refine wp_ret ?_
  exact end_two S5 rfl (res_cell S5 1 4 rfl strct_int shp_zn) (res_tmp S5 0 5 rfl)

set_option maxHeartbeats 400000 in
theorem zpw_w0 (w : World) (s : Bool) (p : Option Addr) (n c : Nat) (xs : List Nat) (z : Int) (h : Sl w p n c xs) (A : Int) (eA : sg s (val xs) = A) (hn : n ≤ 1048576) (hz0 : -9223372036854775808 ≤ z) (hz9 : z ≤ 9223372036854775807) (hz : z < 0) :
    Calls Try.prog 5 #[.agg #[.bool s, .slice p n c], .int .i64 z] w (Gives (TWO (IS (.agg #[.bool false, .slice none 0 0])) (IS (.int .i64 1))) w) := by
  refine calls_sta (sl := [(0, (Zx s p n c xs)), (1, (Is (.int .i64 z)))]) Try.func5 rfl Try.ntmps5 (by simp) (args_cons rfl (zx_has h) (args_cons rfl (is_has _) args_nil)) ?_
  intro a0 S0
  refine wp_stmt_seq [.new (.box 24 (Zx s p n c xs)),
      .new (.box 24 (Is (.agg #[.bool false, .slice none 0 0]))),
      .val (Is (.int .i64 0))] [.inl 0, .inl 1] [.inl 2, .inr 1] follows S0 rfl (by kernel_rfl) ?_ ?_
  · refine ⟨⟨⟨trivial, ?_⟩, ?_⟩, ?_⟩
    · exact owe_box rfl (wants_all rfl) rfl (opnd_slot 0 0 rfl (by kernel_rfl)) rfl (fun ρ w h => box_int shp_zx ρ _ _ w h)
    · exact owe_new rfl (wants_all rfl) rfl rfl (fun ρ w => alloc_int ρ _ w)
    · exact owe_move rfl (wants_all rfl) (Or.inr rfl) (opnd_const _) rfl
  intro B1 a1 W1 S1
  replace S1 : Sta w 40 [(2, (.box 24 (Zx s p n c xs))), (4, (.box 24 (Is (.agg #[.bool false, .slice none 0 0]))))] [(5, (Is (.int .i64 0))), (1, (Is (.int .i64 z)))] B1 a1 W1 := S1
  refine wp_seq ?_
  refine wp_stmt_seq [.val (Is (.int .i64 z)),
      .val (Is (.bool true))] [.inr 0, .inr 1] [.inl 1, .inr 0, .inr 1] follows S1 rfl (by kernel_rfl) ?_ ?_
  · refine ⟨⟨trivial, ?_⟩, ?_⟩
    · exact owe_move rfl (wants_all rfl) (Or.inl rfl) (opnd_slot 1 1 rfl (by kernel_rfl)) rfl
    · exact owe_bin rfl (wants_all rfl) rfl (opnd_op 0 9 (by kernel_rfl) rfl) (opnd_const _) rfl (fun ρ w h1 h2 => by exact run_lss_int_t ρ _ _ _ w _ _ hz h1 h2)
  intro B2 a2 W2 S2
  replace S2 : Sta w 40 [(2, (.box 24 (Zx s p n c xs))), (4, (.box 24 (Is (.agg #[.bool false, .slice none 0 0]))))] [(10, (Is (.bool true))), (5, (Is (.int .i64 0))), (1, (Is (.int .i64 z)))] B2 a2 W2 := S2
  refine wp_cond_true (S2.bool 0 10 rfl) ?_
  refine wp_stmt_seq [.val (Is (.agg #[.bool false, .slice none 0 0])),
      .put (.inl 4) (.box 24 (Is (.agg #[.bool false, .slice none 0 0]))),
      .val (Is (.int .i64 1))] [.inr 0, .inr 1] [.inl 2, .inr 0, .inr 2] follows S2 rfl (by kernel_rfl) ?_ ?_
  · refine ⟨⟨⟨trivial, ?_⟩, ?_⟩, ?_⟩
    · exact owe_build_int rfl (wants_all rfl) rfl rfl
    · exact owe_set rfl (wants_all rfl) rfl (k := 1) rfl (by kernel_rfl) (opnd_op 0 11 (by kernel_rfl) rfl) (stores_of strct_int shp_z0 shp_z0) rfl
    · exact owe_move rfl (wants_all rfl) (Or.inr rfl) (opnd_const _) rfl
  intro B3 a3 W3 S3
  replace S3 : Sta w 40 [(2, (.box 24 (Zx s p n c xs))), (4, (.box 24 (Is (.agg #[.bool false, .slice none 0 0]))))] [(5, (Is (.int .i64 1))), (10, (Is (.bool true))), (1, (Is (.int .i64 z)))] B3 a3 W3 := S3
  refine wp_ret ?_
  refine thenR ?_
  exact end_two S3 rfl (res_cell S3 1 4 rfl strct_int shp_z0) (res_tmp S3 0 5 rfl)

set_option maxHeartbeats 400000 in
theorem zpw_w1 (w : World) (s : Bool) (p : Option Addr) (n c : Nat) (xs : List Nat) (z : Int) (h : Sl w p n c xs) (A : Int) (eA : sg s (val xs) = A) (hn : n ≤ 1048576) (hz0 : -9223372036854775808 ≤ z) (hz9 : z ≤ 9223372036854775807) (hz : 0 ≤ z) (hs : (0 : Int) < ((Go.bitLen A.natAbs : Nat) : Int)) (hq : 65536 / ((Go.bitLen A.natAbs : Nat) : Int) < z) :
    Calls Try.prog 5 #[.agg #[.bool s, .slice p n c], .int .i64 z] w (Gives (TWO (IS (.agg #[.bool false, .slice none 0 0])) (IS (.int .i64 2))) w) := by
  refine calls_sta (sl := [(0, (Zx s p n c xs)), (1, (Is (.int .i64 z)))]) Try.func5 rfl Try.ntmps5 (by simp) (args_cons rfl (zx_has h) (args_cons rfl (is_has _) args_nil)) ?_
  intro a0 S0
  refine wp_stmt_seq [.new (.box 24 (Zx s p n c xs)),
      .new (.box 24 (Is (.agg #[.bool false, .slice none 0 0]))),
      .val (Is (.int .i64 0))] [.inl 0, .inl 1] [.inl 2, .inr 1] follows S0 rfl (by kernel_rfl) ?_ ?_
  · refine ⟨⟨⟨trivial, ?_⟩, ?_⟩, ?_⟩
    · exact owe_box rfl (wants_all rfl) rfl (opnd_slot 0 0 rfl (by kernel_rfl)) rfl (fun ρ w h => box_int shp_zx ρ _ _ w h)
    · exact owe_new rfl (wants_all rfl) rfl rfl (fun ρ w => alloc_int ρ _ w)
    · exact owe_move rfl (wants_all rfl) (Or.inr rfl) (opnd_const _) rfl
  intro B1 a1 W1 S1
  replace S1 : Sta w 40 [(2, (.box 24 (Zx s p n c xs))), (4, (.box 24 (Is (.agg #[.bool false, .slice none 0 0]))))] [(5, (Is (.int .i64 0))), (1, (Is (.int .i64 z)))] B1 a1 W1 := S1
  refine wp_seq ?_
  refine wp_stmt_seq [.val (Is (.int .i64 z)),
      .val (Is (.bool false))] [.inr 0, .inr 1] [.inl 1, .inr 0, .inr 1] follows S1 rfl (by kernel_rfl) ?_ ?_
  · refine ⟨⟨trivial, ?_⟩, ?_⟩
    · exact owe_move rfl (wants_all rfl) (Or.inl rfl) (opnd_slot 1 1 rfl (by kernel_rfl)) rfl
    · exact owe_bin rfl (wants_all rfl) rfl (opnd_op 0 9 (by kernel_rfl) rfl) (opnd_const _) rfl (fun ρ w h1 h2 => by exact run_lss_int_f ρ _ _ _ w _ _ hz h1 h2)
  intro B2 a2 W2 S2
  replace S2 : Sta w 40 [(2, (.box 24 (Zx s p n c xs))), (4, (.box 24 (Is (.agg #[.bool false, .slice none 0 0]))))] [(10, (Is (.bool false))), (5, (Is (.int .i64 0))), (1, (Is (.int .i64 z)))] B2 a2 W2 := S2
  refine wp_cond_false (S2.bool 0 10 rfl) ?_
  refine wp_skip ?_
  refine thenN ?_
  refine wp_seq ?_
  refine wp_stmt_seq [.val (Zx s p n c xs),
      .val (Is (.int .i64 (Go.bitLen (A).natAbs : Nat))),
      .val (Is (.int .i64 (Go.bitLen (A).natAbs : Nat)))] [.inr 0, .inr 1] [.inl 2, .inr 0, .inr 1, .inr 2] follows S2 rfl (by kernel_rfl) ?_ ?_
  · refine ⟨⟨⟨trivial, ?_⟩, ?_⟩, ?_⟩
    · exact owe_load rfl (wants_all rfl) rfl (k := 0) rfl (by kernel_rfl) (loads_of strct_int shp_zx) rfl
    · exact owe_call1 rfl (wants_all rfl) rfl (opnd_op 0 12 (by kernel_rfl) rfl) (fresh_is _) rfl (fun args w => by go_simp) (fun w u h1 => g_zbits (by omega) w u ((zx_zv' eA (Nat.le_refl _)) _ _ h1))
    · exact owe_move rfl (wants_all rfl) (Or.inr rfl) (opnd_op 1 13 (by kernel_rfl) rfl) rfl
  intro B3 a3 W3 S3
  replace S3 : Sta w 40 [(2, (.box 24 (Zx s p n c xs))), (4, (.box 24 (Is (.agg #[.bool false, .slice none 0 0]))))] [(6, (Is (.int .i64 (Go.bitLen (A).natAbs : Nat)))), (10, (Is (.bool false))), (5, (Is (.int .i64 0))), (1, (Is (.int .i64 z)))] B3 a3 W3 := S3
  refine wp_stmt_seq [.val (Is (.int .i64 (Go.bitLen (A).natAbs : Nat))),
      .val (Is (.bool true)),
      .val (Is (.bool true)),
      .val (Is (.int .i64 z)),
      .val (Is (.int .i64 (Go.bitLen (A).natAbs : Nat))),
      .val (Is (.int .i64 (65536 / ((Go.bitLen A.natAbs : Nat) : Int)))),
      .val (Is (.bool true)),
      .val (Is (.bool true))] [.inr 0, .inr 1] [.inl 7, .inr 1, .inr 2, .inr 3] follows S3 rfl (by kernel_rfl) ?_ ?_
  · refine ⟨⟨⟨⟨⟨⟨⟨⟨trivial, ?_⟩, ?_⟩, ?_⟩, ?_⟩, ?_⟩, ?_⟩, ?_⟩, ?_⟩
    · exact owe_move rfl (wants_all rfl) (Or.inl rfl) (opnd_slot 0 6 rfl (by kernel_rfl)) rfl
    · exact owe_bin rfl (wants_all rfl) rfl (opnd_op 0 14 (by kernel_rfl) rfl) (opnd_const _) rfl (fun ρ w h1 h2 => by exact run_gtr_int_t ρ _ _ _ w _ _ hs h1 h2)
    · exact owe_move rfl (wants_all rfl) (Or.inl rfl) (opnd_op 1 15 (by kernel_rfl) rfl) rfl
    · exact owe_move rfl (wants_if 2 16 rfl (by kernel_rfl) rfl) (Or.inl rfl) (opnd_slot 3 1 rfl (by kernel_rfl)) rfl
    · exact owe_move rfl (wants_if 2 16 rfl (by kernel_rfl) rfl) (Or.inl rfl) (opnd_slot 0 6 rfl (by kernel_rfl)) rfl
    · exact owe_bin rfl (wants_if 2 16 rfl (by kernel_rfl) rfl) rfl (opnd_const _) (opnd_op 4 18 (by kernel_rfl) rfl) rfl (fun ρ w h1 h2 => by exact run_quo_int ρ _ _ _ w _ _ _ ⟨rfl, by omega, by omega, by omega⟩ h1 h2)
    · exact owe_bin rfl (wants_if 2 16 rfl (by kernel_rfl) rfl) rfl (opnd_op 3 17 (by kernel_rfl) rfl) (opnd_op 5 19 (by kernel_rfl) rfl) rfl (fun ρ w h1 h2 => by exact run_gtr_int_t ρ _ _ _ w _ _ hq h1 h2)
    · exact owe_pick rfl (wants_all rfl) rfl (opnd_op 2 16 (by kernel_rfl) rfl) (fun _ => (opnd_op 6 20 (by kernel_rfl) rfl)) (fun h => nomatch h) rfl
  intro B4 a4 W4 S4
  replace S4 : Sta w 40 [(2, (.box 24 (Zx s p n c xs))), (4, (.box 24 (Is (.agg #[.bool false, .slice none 0 0]))))] [(21, (Is (.bool true))), (10, (Is (.bool false))), (5, (Is (.int .i64 0))), (1, (Is (.int .i64 z)))] B4 a4 W4 := S4
  refine wp_cond_true (S4.bool 0 21 rfl) ?_
  refine wp_stmt_seq [.val (Is (.agg #[.bool false, .slice none 0 0])),
      .put (.inl 4) (.box 24 (Is (.agg #[.bool false, .slice none 0 0]))),
      .val (Is (.int .i64 2))] [.inr 0, .inr 1] [.inl 2, .inr 0, .inr 1, .inr 3] follows S4 rfl (by kernel_rfl) ?_ ?_
  · refine ⟨⟨⟨trivial, ?_⟩, ?_⟩, ?_⟩
    · exact owe_build_int rfl (wants_all rfl) rfl rfl
    · exact owe_set rfl (wants_all rfl) rfl (k := 1) rfl (by kernel_rfl) (opnd_op 0 22 (by kernel_rfl) rfl) (stores_of strct_int shp_z0 shp_z0) rfl
    · exact owe_move rfl (wants_all rfl) (Or.inr rfl) (opnd_const _) rfl
  intro B5 a5 W5 S5
  replace S5 : Sta w 40 [(2, (.box 24 (Zx s p n c xs))), (4, (.box 24 (Is (.agg #[.bool false, .slice none 0 0]))))] [(5, (Is (.int .i64 2))), (21, (Is (.bool true))), (10, (Is (.bool false))), (1, (Is (.int .i64 z)))] B5 a5 W5 := S5
  refine wp_ret ?_
  refine thenR ?_
  exact end_two S5 rfl (res_cell S5 1 4 rfl strct_int shp_z0) (res_tmp S5 0 5 rfl)

set_option maxHeartbeats 400000 in
theorem zpw_v00 (w : World) (p : Option Addr) (n c : Nat) (xs : List Nat) (z : Int) (h : Sl w p n c xs) (A : Int) (eA : sg false (val xs) = A) (hn : n ≤ 1048576) (hz0 : -9223372036854775808 ≤ z) (hz9 : z ≤ 9223372036854775807) (hz : 0 ≤ z) (hs : ((Go.bitLen A.natAbs : Nat) : Int) ≤ 0) (hb : z = 0 ∨ Go.bitLen (val xs) ≤ 1 ∨ z ≤ 1048576 / ((Go.bitLen (val xs) : Nat) : Int)) :
    Calls Try.prog 5 #[.agg #[.bool false, .slice p n c], .int .i64 z] w (Gives (TWO (ZN (sg false (val xs ^ z.toNat))) (IS (.int .i64 0))) w) := by
  refine calls_sta (sl := [(0, (Zx false p n c xs)), (1, (Is (.int .i64 z)))]) Try.func5 rfl Try.ntmps5 (by simp) (args_cons rfl (zx_has h) (args_cons rfl (is_has _) args_nil)) ?_
  intro a0 S0
  refine wp_stmt_seq [.new (.box 24 (Zx false p n c xs)),
      .new (.box 24 (Is (.agg #[.bool false, .slice none 0 0]))),
      .val (Is (.int .i64 0))] [.inl 0, .inl 1] [.inl 2, .inr 1] follows S0 rfl (by kernel_rfl) ?_ ?_
  · refine ⟨⟨⟨trivial, ?_⟩, ?_⟩, ?_⟩
    · exact owe_box rfl (wants_all rfl) rfl (opnd_slot 0 0 rfl (by kernel_rfl)) rfl (fun ρ w h => box_int shp_zx ρ _ _ w h)
    · exact owe_new rfl (wants_all rfl) rfl rfl (fun ρ w => alloc_int ρ _ w)
    · exact owe_move rfl (wants_all rfl) (Or.inr rfl) (opnd_const _) rfl
  intro B1 a1 W1 S1
  replace S1 : Sta w 40 [(2, (.box 24 (Zx false p n c xs))), (4, (.box 24 (Is (.agg #[.bool false, .slice none 0 0]))))] [(5, (Is (.int .i64 0))), (1, (Is (.int .i64 z)))] B1 a1 W1 := S1
  refine wp_seq ?_
  refine wp_stmt_seq [.val (Is (.int .i64 z)),
      .val (Is (.bool false))] [.inr 0, .inr 1] [.inl 1, .inr 0, .inr 1] follows S1 rfl (by kernel_rfl) ?_ ?_
  · refine ⟨⟨trivial, ?_⟩, ?_⟩
    · exact owe_move rfl (wants_all rfl) (Or.inl rfl) (opnd_slot 1 1 rfl (by kernel_rfl)) rfl
    · exact owe_bin rfl (wants_all rfl) rfl (opnd_op 0 9 (by kernel_rfl) rfl) (opnd_const _) rfl (fun ρ w h1 h2 => by exact run_lss_int_f ρ _ _ _ w _ _ hz h1 h2)
  intro B2 a2 W2 S2
  replace S2 : Sta w 40 [(2, (.box 24 (Zx false p n c xs))), (4, (.box 24 (Is (.agg #[.bool false, .slice none 0 0]))))] [(10, (Is (.bool false))), (5, (Is (.int .i64 0))), (1, (Is (.int .i64 z)))] B2 a2 W2 := S2
  refine wp_cond_false (S2.bool 0 10 rfl) ?_
  refine wp_skip ?_
  refine thenN ?_
  refine wp_seq ?_
  refine wp_stmt_seq [.val (Zx false p n c xs),
      .val (Is (.int .i64 (Go.bitLen (A).natAbs : Nat))),
      .val (Is (.int .i64 (Go.bitLen (A).natAbs : Nat)))] [.inr 0, .inr 1] [.inl 2, .inr 0, .inr 1, .inr 2] follows S2 rfl (by kernel_rfl) ?_ ?_
  · refine ⟨⟨⟨trivial, ?_⟩, ?_⟩, ?_⟩
    · exact owe_load rfl (wants_all rfl) rfl (k := 0) rfl (by kernel_rfl) (loads_of strct_int shp_zx) rfl
    · exact owe_call1 rfl (wants_all rfl) rfl (opnd_op 0 12 (by kernel_rfl) rfl) (fresh_is _) rfl (fun args w => by go_simp) (fun w u h1 => g_zbits (by omega) w u ((zx_zv' eA (Nat.le_refl _)) _ _ h1))
    · exact owe_move rfl (wants_all rfl) (Or.inr rfl) (opnd_op 1 13 (by kernel_rfl) rfl) rfl
  intro B3 a3 W3 S3
  replace S3 : Sta w 40 [(2, (.box 24 (Zx false p n c xs))), (4, (.box 24 (Is (.agg #[.bool false, .slice none 0 0]))))] [(6, (Is (.int .i64 (Go.bitLen (A).natAbs : Nat)))), (10, (Is (.bool false))), (5, (Is (.int .i64 0))), (1, (Is (.int .i64 z)))] B3 a3 W3 := S3
  refine wp_stmt_seq [.val (Is (.int .i64 (Go.bitLen (A).natAbs : Nat))),
      .val (Is (.bool false)),
      .val (Is (.bool false)),
      .off,
      .off,
      .off,
      .off,
      .val (Is (.bool false))] [.inr 0, .inr 1] [.inl 7, .inr 1, .inr 2, .inr 3] follows S3 rfl (by kernel_rfl) ?_ ?_
  · refine ⟨⟨⟨⟨⟨⟨⟨⟨trivial, ?_⟩, ?_⟩, ?_⟩, ?_⟩, ?_⟩, ?_⟩, ?_⟩, ?_⟩
    · exact owe_move rfl (wants_all rfl) (Or.inl rfl) (opnd_slot 0 6 rfl (by kernel_rfl)) rfl
    · exact owe_bin rfl (wants_all rfl) rfl (opnd_op 0 14 (by kernel_rfl) rfl) (opnd_const _) rfl (fun ρ w h1 h2 => by exact run_gtr_int_f ρ _ _ _ w _ _ hs h1 h2)
    · exact owe_move rfl (wants_all rfl) (Or.inl rfl) (opnd_op 1 15 (by kernel_rfl) rfl) rfl
    · exact owe_off 2 16 rfl rfl rfl (by kernel_rfl) rfl (by decide)
    · exact owe_off 2 16 rfl rfl rfl (by kernel_rfl) rfl (by decide)
    · exact owe_off 2 16 rfl rfl rfl (by kernel_rfl) rfl (by decide)
    · exact owe_off 2 16 rfl rfl rfl (by kernel_rfl) rfl (by decide)
    · exact owe_pick rfl (wants_all rfl) rfl (opnd_op 2 16 (by kernel_rfl) rfl) (fun h => nomatch h) (fun _ => (opnd_const _)) rfl
  intro B4 a4 W4 S4
  replace S4 : Sta w 40 [(2, (.box 24 (Zx false p n c xs))), (4, (.box 24 (Is (.agg #[.bool false, .slice none 0 0]))))] [(21, (Is (.bool false))), (10, (Is (.bool false))), (5, (Is (.int .i64 0))), (1, (Is (.int .i64 z)))] B4 a4 W4 := S4
  refine wp_cond_false (S4.bool 0 21 rfl) ?_
  refine wp_skip ?_
  refine thenN ?_
  refine wp_stmt_seq [.val (Part a4 2 1),
      .val (Nx p n c xs),
      .val (Is (.int .i64 z)),
      .val ((TWO (NN ((val xs) ^ z.toNat)) (IS (.int .i64 0))) w.heap.size),
      .val ((TWO (NN ((val xs) ^ z.toNat)) (IS (.int .i64 0))) w.heap.size),
      .val ((NN ((val xs) ^ z.toNat)) w.heap.size),
      .val (Is (.int .i64 0)),
      .val ((NN ((val xs) ^ z.toNat)) w.heap.size),
      .val (Is (.int .i64 0))] [.inr 0, .inr 1] [.inl 7, .inl 8, .inr 0, .inr 1, .inr 2, .inr 3] follows S4 rfl (by kernel_rfl) ?_ ?_
  · refine ⟨⟨⟨⟨⟨⟨⟨⟨⟨trivial, ?_⟩, ?_⟩, ?_⟩, ?_⟩, ?_⟩, ?_⟩, ?_⟩, ?_⟩, ?_⟩
    · exact owe_part rfl (wants_all rfl) rfl (k := 0) rfl (by kernel_rfl) rfl (fun ρ w b h => part_int1 ρ _ _ w b 0 h)
    · exact owe_pload rfl (wants_all rfl) rfl (opnd_op 0 24 (by kernel_rfl) rfl) (k := 0) rfl (by kernel_rfl) rfl (fun ρ w b u h1 h2 h3 => pload_mag zx_mag ρ _ _ w b u h1 h2 h3)
    · exact owe_move rfl (wants_all rfl) (Or.inl rfl) (opnd_slot 3 1 rfl (by kernel_rfl)) rfl
    · exact owe_call2 rfl (wants_all rfl) rfl (opnd_op 1 25 (by kernel_rfl) rfl) (opnd_op 2 26 (by kernel_rfl) rfl) (fresh_two (fresh_nn _) (fresh_is _)) rfl (fun args w => by go_simp) (fun w u v h1 h2 => g_pow (by omega) hz hb w u v ((nx_nv (Nat.le_refl _)) _ _ h1) h2)
    · exact owe_move rfl (wants_all rfl) (Or.inl rfl) (opnd_op 3 27 (by kernel_rfl) rfl) rfl
    · exact owe_ext2 rfl (wants_all rfl) rfl (opnd_op 4 23 (by kernel_rfl) rfl) (Or.inl ⟨rfl, rfl⟩) rfl
    · exact owe_ext2 rfl (wants_all rfl) rfl (opnd_op 4 23 (by kernel_rfl) rfl) (Or.inr ⟨rfl, rfl⟩) rfl
    · exact owe_move rfl (wants_all rfl) (Or.inr rfl) (opnd_op 5 28 (by kernel_rfl) rfl) rfl
    · exact owe_move rfl (wants_all rfl) (Or.inr rfl) (opnd_op 6 29 (by kernel_rfl) rfl) rfl
  intro B5 a5 W5 S5
  replace S5 : Sta w 40 [(2, (.box 24 (Zx false p n c xs))), (4, (.box 24 (Is (.agg #[.bool false, .slice none 0 0]))))] [(7, ((NN ((val xs) ^ z.toNat)) w.heap.size)), (8, (Is (.int .i64 0))), (21, (Is (.bool false))), (10, (Is (.bool false))), (5, (Is (.int .i64 0))), (1, (Is (.int .i64 z)))] B5 a5 W5 := S5
  refine wp_stmt_seq [.val (Part a5 2 0),
      .val (Is (.bool false)),
      .val (Is (.bool false)),
      .off,
      .off,
      .off,
      .val (Is (.bool false)),
      .val ((NN ((val xs) ^ z.toNat)) w.heap.size),
      .val ((ZN (sg false ((val xs) ^ z.toNat))) w.heap.size),
      .val (Is (.int .i64 0)),
      .put (.inl 4) (.box 24 ((ZN (sg false ((val xs) ^ z.toNat))) w.heap.size)),
      .val (Is (.int .i64 0))] [.inr 0, .inr 1] [.inl 11, .inr 2, .inr 3, .inr 5] follows S5 rfl (by kernel_rfl) ?_ ?_
  · refine ⟨⟨⟨⟨⟨⟨⟨⟨⟨⟨⟨⟨trivial, ?_⟩, ?_⟩, ?_⟩, ?_⟩, ?_⟩, ?_⟩, ?_⟩, ?_⟩, ?_⟩, ?_⟩, ?_⟩, ?_⟩
    · exact owe_part rfl (wants_all rfl) rfl (k := 0) rfl (by kernel_rfl) rfl (fun ρ w b h => part_int0 ρ _ _ w b 0 h)
    · exact owe_pload rfl (wants_all rfl) rfl (opnd_op 0 30 (by kernel_rfl) rfl) (k := 0) rfl (by kernel_rfl) rfl (fun ρ w b u h1 h2 h3 => pload_neg zx_neg ρ _ _ w b u h1 h2 h3)
    · exact owe_move rfl (wants_all rfl) (Or.inl rfl) (opnd_op 1 31 (by kernel_rfl) rfl) rfl
    · exact owe_off 2 32 rfl rfl rfl (by kernel_rfl) rfl (by decide)
    · exact owe_off 2 32 rfl rfl rfl (by kernel_rfl) rfl (by decide)
    · exact owe_off 2 32 rfl rfl rfl (by kernel_rfl) rfl (by decide)
    · exact owe_pick rfl (wants_all rfl) rfl (opnd_op 2 32 (by kernel_rfl) rfl) (fun h => nomatch h) (fun _ => (opnd_const _)) rfl
    · exact owe_move rfl (wants_all rfl) (Or.inl rfl) (opnd_slot 0 7 rfl (by kernel_rfl)) rfl
    · exact owe_callF2 rfl (wants_all rfl) rfl (opnd_op 6 36 (by kernel_rfl) rfl) (opnd_op 7 37 (by kernel_rfl) rfl) rfl (fun args w => by go_simp) g_signed
    · exact owe_move rfl (wants_all rfl) (Or.inl rfl) (opnd_slot 1 8 rfl (by kernel_rfl)) rfl
    · exact owe_set rfl (wants_all rfl) rfl (k := 1) rfl (by kernel_rfl) (opnd_op 8 38 (by kernel_rfl) rfl) (stores_of strct_int shp_z0 shp_zn) rfl
    · exact owe_move rfl (wants_all rfl) (Or.inr rfl) (opnd_op 9 39 (by kernel_rfl) rfl) rfl
  intro B6 a6 W6 S6
  replace S6 : Sta w 40 [(2, (.box 24 (Zx false p n c xs))), (4, (.box 24 ((ZN (sg false ((val xs) ^ z.toNat))) w.heap.size)))] [(5, (Is (.int .i64 0))), (21, (Is (.bool false))), (10, (Is (.bool false))), (1, (Is (.int .i64 z)))] B6 a6 W6 := S6
  refine wp_ret ?_
  exact end_two S6 rfl (res_cell S6 1 4 rfl strct_int shp_zn) (res_tmp S6 0 5 rfl)

set_option maxHeartbeats 400000 in
theorem zpw_v01 (w : World) (p : Option Addr) (n c : Nat) (xs : List Nat) (z : Int) (h : Sl w p n c xs) (A : Int) (eA : sg true (val xs) = A) (hn : n ≤ 1048576) (hz0 : -9223372036854775808 ≤ z) (hz9 : z ≤ 9223372036854775807) (hz : 0 ≤ z) (hs : ((Go.bitLen A.natAbs : Nat) : Int) ≤ 0) (ho : z % 2 = 1) (hb : z = 0 ∨ Go.bitLen (val xs) ≤ 1 ∨ z ≤ 1048576 / ((Go.bitLen (val xs) : Nat) : Int)) :
    Calls Try.prog 5 #[.agg #[.bool true, .slice p n c], .int .i64 z] w (Gives (TWO (ZN (sg true (val xs ^ z.toNat))) (IS (.int .i64 0))) w) := by
  refine calls_sta (sl := [(0, (Zx true p n c xs)), (1, (Is (.int .i64 z)))]) Try.func5 rfl Try.ntmps5 (by simp) (args_cons rfl (zx_has h) (args_cons rfl (is_has _) args_nil)) ?_
  intro a0 S0
  refine wp_stmt_seq [.new (.box 24 (Zx true p n c xs)),
      .new (.box 24 (Is (.agg #[.bool false, .slice none 0 0]))),
      .val (Is (.int .i64 0))] [.inl 0, .inl 1] [.inl 2, .inr 1] follows S0 rfl (by kernel_rfl) ?_ ?_
  · refine ⟨⟨⟨trivial, ?_⟩, ?_⟩, ?_⟩
    · exact owe_box rfl (wants_all rfl) rfl (opnd_slot 0 0 rfl (by kernel_rfl)) rfl (fun ρ w h => box_int shp_zx ρ _ _ w h)
    · exact owe_new rfl (wants_all rfl) rfl rfl (fun ρ w => alloc_int ρ _ w)
    · exact owe_move rfl (wants_all rfl) (Or.inr rfl) (opnd_const _) rfl
  intro B1 a1 W1 S1
  replace S1 : Sta w 40 [(2, (.box 24 (Zx true p n c xs))), (4, (.box 24 (Is (.agg #[.bool false, .slice none 0 0]))))] [(5, (Is (.int .i64 0))), (1, (Is (.int .i64 z)))] B1 a1 W1 := S1
  refine wp_seq ?_
  refine wp_stmt_seq [.val (Is (.int .i64 z)),
      .val (Is (.bool false))] [.inr 0, .inr 1] [.inl 1, .inr 0, .inr 1] follows S1 rfl (by kernel_rfl) ?_ ?_
  · refine ⟨⟨trivial, ?_⟩, ?_⟩
    · exact owe_move rfl (wants_all rfl) (Or.inl rfl) (opnd_slot 1 1 rfl (by kernel_rfl)) rfl
    · exact owe_bin rfl (wants_all rfl) rfl (opnd_op 0 9 (by kernel_rfl) rfl) (opnd_const _) rfl (fun ρ w h1 h2 => by exact run_lss_int_f ρ _ _ _ w _ _ hz h1 h2)
  intro B2 a2 W2 S2
  replace S2 : Sta w 40 [(2, (.box 24 (Zx true p n c xs))), (4, (.box 24 (Is (.agg #[.bool false, .slice none 0 0]))))] [(10, (Is (.bool false))), (5, (Is (.int .i64 0))), (1, (Is (.int .i64 z)))] B2 a2 W2 := S2
  refine wp_cond_false (S2.bool 0 10 rfl) ?_
  refine wp_skip ?_
  refine thenN ?_
  refine wp_seq ?_
  refine wp_stmt_seq [.val (Zx true p n c xs),
      .val (Is (.int .i64 (Go.bitLen (A).natAbs : Nat))),
      .val (Is (.int .i64 (Go.bitLen (A).natAbs : Nat)))] [.inr 0, .inr 1] [.inl 2, .inr 0, .inr 1, .inr 2] follows S2 rfl (by kernel_rfl) ?_ ?_
  · refine ⟨⟨⟨trivial, ?_⟩, ?_⟩, ?_⟩
    · exact owe_load rfl (wants_all rfl) rfl (k := 0) rfl (by kernel_rfl) (loads_of strct_int shp_zx) rfl
    · exact owe_call1 rfl (wants_all rfl) rfl (opnd_op 0 12 (by kernel_rfl) rfl) (fresh_is _) rfl (fun args w => by go_simp) (fun w u h1 => g_zbits (by omega) w u ((zx_zv' eA (Nat.le_refl _)) _ _ h1))
    · exact owe_move rfl (wants_all rfl) (Or.inr rfl) (opnd_op 1 13 (by kernel_rfl) rfl) rfl
  intro B3 a3 W3 S3
  replace S3 : Sta w 40 [(2, (.box 24 (Zx true p n c xs))), (4, (.box 24 (Is (.agg #[.bool false, .slice none 0 0]))))] [(6, (Is (.int .i64 (Go.bitLen (A).natAbs : Nat)))), (10, (Is (.bool false))), (5, (Is (.int .i64 0))), (1, (Is (.int .i64 z)))] B3 a3 W3 := S3
  refine wp_stmt_seq [.val (Is (.int .i64 (Go.bitLen (A).natAbs : Nat))),
      .val (Is (.bool false)),
      .val (Is (.bool false)),
      .off,
      .off,
      .off,
      .off,
      .val (Is (.bool false))] [.inr 0, .inr 1] [.inl 7, .inr 1, .inr 2, .inr 3] follows S3 rfl (by kernel_rfl) ?_ ?_
  · refine ⟨⟨⟨⟨⟨⟨⟨⟨trivial, ?_⟩, ?_⟩, ?_⟩, ?_⟩, ?_⟩, ?_⟩, ?_⟩, ?_⟩
    · exact owe_move rfl (wants_all rfl) (Or.inl rfl) (opnd_slot 0 6 rfl (by kernel_rfl)) rfl
    · exact owe_bin rfl (wants_all rfl) rfl (opnd_op 0 14 (by kernel_rfl) rfl) (opnd_const _) rfl (fun ρ w h1 h2 => by exact run_gtr_int_f ρ _ _ _ w _ _ hs h1 h2)
    · exact owe_move rfl (wants_all rfl) (Or.inl rfl) (opnd_op 1 15 (by kernel_rfl) rfl) rfl
    · exact owe_off 2 16 rfl rfl rfl (by kernel_rfl) rfl (by decide)
    · exact owe_off 2 16 rfl rfl rfl (by kernel_rfl) rfl (by decide)
    · exact owe_off 2 16 rfl rfl rfl (by kernel_rfl) rfl (by decide)
    · exact owe_off 2 16 rfl rfl rfl (by kernel_rfl) rfl (by decide)
    · exact owe_pick rfl (wants_all rfl) rfl (opnd_op 2 16 (by kernel_rfl) rfl) (fun h => nomatch h) (fun _ => (opnd_const _)) rfl
  intro B4 a4 W4 S4
  replace S4 : Sta w 40 [(2, (.box 24 (Zx true p n c xs))), (4, (.box 24 (Is (.agg #[.bool false, .slice none 0 0]))))] [(21, (Is (.bool false))), (10, (Is (.bool false))), (5, (Is (.int .i64 0))), (1, (Is (.int .i64 z)))] B4 a4 W4 := S4
  refine wp_cond_false (S4.bool 0 21 rfl) ?_
  refine wp_skip ?_
  refine thenN ?_
  refine wp_stmt_seq [.val (Part a4 2 1),
      .val (Nx p n c xs),
      .val (Is (.int .i64 z)),
      .val ((TWO (NN ((val xs) ^ z.toNat)) (IS (.int .i64 0))) w.heap.size),
      .val ((TWO (NN ((val xs) ^ z.toNat)) (IS (.int .i64 0))) w.heap.size),
      .val ((NN ((val xs) ^ z.toNat)) w.heap.size),
      .val (Is (.int .i64 0)),
      .val ((NN ((val xs) ^ z.toNat)) w.heap.size),
      .val (Is (.int .i64 0))] [.inr 0, .inr 1] [.inl 7, .inl 8, .inr 0, .inr 1, .inr 2, .inr 3] follows S4 rfl (by kernel_rfl) ?_ ?_
  · refine ⟨⟨⟨⟨⟨⟨⟨⟨⟨trivial, ?_⟩, ?_⟩, ?_⟩, ?_⟩, ?_⟩, ?_⟩, ?_⟩, ?_⟩, ?_⟩
    · exact owe_part rfl (wants_all rfl) rfl (k := 0) rfl (by kernel_rfl) rfl (fun ρ w b h => part_int1 ρ _ _ w b 0 h)
    · exact owe_pload rfl (wants_all rfl) rfl (opnd_op 0 24 (by kernel_rfl) rfl) (k := 0) rfl (by kernel_rfl) rfl (fun ρ w b u h1 h2 h3 => pload_mag zx_mag ρ _ _ w b u h1 h2 h3)
    · exact owe_move rfl (wants_all rfl) (Or.inl rfl) (opnd_slot 3 1 rfl (by kernel_rfl)) rfl
    · exact owe_call2 rfl (wants_all rfl) rfl (opnd_op 1 25 (by kernel_rfl) rfl) (opnd_op 2 26 (by kernel_rfl) rfl) (fresh_two (fresh_nn _) (fresh_is _)) rfl (fun args w => by go_simp) (fun w u v h1 h2 => g_pow (by omega) hz hb w u v ((nx_nv (Nat.le_refl _)) _ _ h1) h2)
    · exact owe_move rfl (wants_all rfl) (Or.inl rfl) (opnd_op 3 27 (by kernel_rfl) rfl) rfl
    · exact owe_ext2 rfl (wants_all rfl) rfl (opnd_op 4 23 (by kernel_rfl) rfl) (Or.inl ⟨rfl, rfl⟩) rfl
    · exact owe_ext2 rfl (wants_all rfl) rfl (opnd_op 4 23 (by kernel_rfl) rfl) (Or.inr ⟨rfl, rfl⟩) rfl
    · exact owe_move rfl (wants_all rfl) (Or.inr rfl) (opnd_op 5 28 (by kernel_rfl) rfl) rfl
    · exact owe_move rfl (wants_all rfl) (Or.inr rfl) (opnd_op 6 29 (by kernel_rfl) rfl) rfl
  intro B5 a5 W5 S5
  replace S5 : Sta w 40 [(2, (.box 24 (Zx true p n c xs))), (4, (.box 24 (Is (.agg #[.bool false, .slice none 0 0]))))] [(7, ((NN ((val xs) ^ z.toNat)) w.heap.size)), (8, (Is (.int .i64 0))), (21, (Is (.bool false))), (10, (Is (.bool false))), (5, (Is (.int .i64 0))), (1, (Is (.int .i64 z)))] B5 a5 W5 := S5
  refine wp_stmt_seq [.val (Part a5 2 0),
      .val (Is (.bool true)),
      .val (Is (.bool true)),
      .val (Is (.int .i64 z)),
      .val (Is (.int .i64 (z % 2))),
      .val (Is (.bool true)),
      .val (Is (.bool true)),
      .val ((NN ((val xs) ^ z.toNat)) w.heap.size),
      .val ((ZN (sg true ((val xs) ^ z.toNat))) w.heap.size),
      .val (Is (.int .i64 0)),
      .put (.inl 4) (.box 24 ((ZN (sg true ((val xs) ^ z.toNat))) w.heap.size)),
      .val (Is (.int .i64 0))] [.inr 0, .inr 1] [.inl 11, .inr 2, .inr 3, .inr 5] follows S5 rfl (by kernel_rfl) ?_ ?_
  · refine ⟨⟨⟨⟨⟨⟨⟨⟨⟨⟨⟨⟨trivial, ?_⟩, ?_⟩, ?_⟩, ?_⟩, ?_⟩, ?_⟩, ?_⟩, ?_⟩, ?_⟩, ?_⟩, ?_⟩, ?_⟩
    · exact owe_part rfl (wants_all rfl) rfl (k := 0) rfl (by kernel_rfl) rfl (fun ρ w b h => part_int0 ρ _ _ w b 0 h)
    · exact owe_pload rfl (wants_all rfl) rfl (opnd_op 0 30 (by kernel_rfl) rfl) (k := 0) rfl (by kernel_rfl) rfl (fun ρ w b u h1 h2 h3 => pload_neg zx_neg ρ _ _ w b u h1 h2 h3)
    · exact owe_move rfl (wants_all rfl) (Or.inl rfl) (opnd_op 1 31 (by kernel_rfl) rfl) rfl
    · exact owe_move rfl (wants_if 2 32 rfl (by kernel_rfl) rfl) (Or.inl rfl) (opnd_slot 5 1 rfl (by kernel_rfl)) rfl
    · exact owe_bin rfl (wants_if 2 32 rfl (by kernel_rfl) rfl) rfl (opnd_op 3 33 (by kernel_rfl) rfl) (opnd_const _) rfl (fun ρ w h1 h2 => by exact run_rem_int ρ _ _ _ w _ _ _ ⟨rfl, hz, by omega, by omega⟩ h1 h2)
    · exact owe_bin rfl (wants_if 2 32 rfl (by kernel_rfl) rfl) rfl (opnd_op 4 34 (by kernel_rfl) rfl) (opnd_const _) rfl (fun ρ w h1 h2 => by exact run_eql_int_t ρ _ _ _ w _ _ ho h1 h2)
    · exact owe_pick rfl (wants_all rfl) rfl (opnd_op 2 32 (by kernel_rfl) rfl) (fun _ => (opnd_op 5 35 (by kernel_rfl) rfl)) (fun h => nomatch h) rfl
    · exact owe_move rfl (wants_all rfl) (Or.inl rfl) (opnd_slot 0 7 rfl (by kernel_rfl)) rfl
    · exact owe_callF2 rfl (wants_all rfl) rfl (opnd_op 6 36 (by kernel_rfl) rfl) (opnd_op 7 37 (by kernel_rfl) rfl) rfl (fun args w => by go_simp) g_signed
    · exact owe_move rfl (wants_all rfl) (Or.inl rfl) (opnd_slot 1 8 rfl (by kernel_rfl)) rfl
    · exact owe_set rfl (wants_all rfl) rfl (k := 1) rfl (by kernel_rfl) (opnd_op 8 38 (by kernel_rfl) rfl) (stores_of strct_int shp_z0 shp_zn) rfl
    · exact owe_move rfl (wants_all rfl) (Or.inr rfl) (opnd_op 9 39 (by kernel_rfl) rfl) rfl
  intro B6 a6 W6 S6
  replace S6 : Sta w 40 [(2, (.box 24 (Zx true p n c xs))), (4, (.box 24 ((ZN (sg true ((val xs) ^ z.toNat))) w.heap.size)))] [(5, (Is (.int .i64 0))), (21, (Is (.bool false))), (10, (Is (.bool false))), (1, (Is (.int .i64 z)))] B6 a6 W6 := S6
  refine wp_ret ?_
  exact end_two S6 rfl (res_cell S6 1 4 rfl strct_int shp_zn) (res_tmp S6 0 5 rfl)

set_option maxHeartbeats 400000 in
theorem zpw_v02 (w : World) (p : Option Addr) (n c : Nat) (xs : List Nat) (z : Int) (h : Sl w p n c xs) (A : Int) (eA : sg true (val xs) = A) (hn : n ≤ 1048576) (hz0 : -9223372036854775808 ≤ z) (hz9 : z ≤ 9223372036854775807) (hz : 0 ≤ z) (hs : ((Go.bitLen A.natAbs : Nat) : Int) ≤ 0) (ho : z % 2 ≠ 1) (hb : z = 0 ∨ Go.bitLen (val xs) ≤ 1 ∨ z ≤ 1048576 / ((Go.bitLen (val xs) : Nat) : Int)) :
    Calls Try.prog 5 #[.agg #[.bool true, .slice p n c], .int .i64 z] w (Gives (TWO (ZN (sg false (val xs ^ z.toNat))) (IS (.int .i64 0))) w) := by
  refine calls_sta (sl := [(0, (Zx true p n c xs)), (1, (Is (.int .i64 z)))]) Try.func5 rfl Try.ntmps5 (by simp) (args_cons rfl (zx_has h) (args_cons rfl (is_has _) args_nil)) ?_
  intro a0 S0
  refine wp_stmt_seq [.new (.box 24 (Zx true p n c xs)),
      .new (.box 24 (Is (.agg #[.bool false, .slice none 0 0]))),
      .val (Is (.int .i64 0))] [.inl 0, .inl 1] [.inl 2, .inr 1] follows S0 rfl (by kernel_rfl) ?_ ?_
  · refine ⟨⟨⟨trivial, ?_⟩, ?_⟩, ?_⟩
    · exact owe_box rfl (wants_all rfl) rfl (opnd_slot 0 0 rfl (by kernel_rfl)) rfl (fun ρ w h => box_int shp_zx ρ _ _ w h)
    · exact owe_new rfl (wants_all rfl) rfl rfl (fun ρ w => alloc_int ρ _ w)
    · exact owe_move rfl (wants_all rfl) (Or.inr rfl) (opnd_const _) rfl
  intro B1 a1 W1 S1
  replace S1 : Sta w 40 [(2, (.box 24 (Zx true p n c xs))), (4, (.box 24 (Is (.agg #[.bool false, .slice none 0 0]))))] [(5, (Is (.int .i64 0))), (1, (Is (.int .i64 z)))] B1 a1 W1 := S1
  refine wp_seq ?_
  refine wp_stmt_seq [.val (Is (.int .i64 z)),
      .val (Is (.bool false))] [.inr 0, .inr 1] [.inl 1, .inr 0, .inr 1] follows S1 rfl (by kernel_rfl) ?_ ?_
  · refine ⟨⟨trivial, ?_⟩, ?_⟩
    · exact owe_move rfl (wants_all rfl) (Or.inl rfl) (opnd_slot 1 1 rfl (by kernel_rfl)) rfl
    · exact owe_bin rfl (wants_all rfl) rfl (opnd_op 0 9 (by kernel_rfl) rfl) (opnd_const _) rfl (fun ρ w h1 h2 => by exact run_lss_int_f ρ _ _ _ w _ _ hz h1 h2)
  intro B2 a2 W2 S2
  replace S2 : Sta w 40 [(2, (.box 24 (Zx true p n c xs))), (4, (.box 24 (Is (.agg #[.bool false, .slice none 0 0]))))] [(10, (Is (.bool false))), (5, (Is (.int .i64 0))), (1, (Is (.int .i64 z)))] B2 a2 W2 := S2
  refine wp_cond_false (S2.bool 0 10 rfl) ?_
  refine wp_skip ?_
  refine thenN ?_
  refine wp_seq ?_
  refine wp_stmt_seq [.val (Zx true p n c xs),
      .val (Is (.int .i64 (Go.bitLen (A).natAbs : Nat))),
      .val (Is (.int .i64 (Go.bitLen (A).natAbs : Nat)))] [.inr 0, .inr 1] [.inl 2, .inr 0, .inr 1, .inr 2] follows S2 rfl (by kernel_rfl) ?_ ?_
  · refine ⟨⟨⟨trivial, ?_⟩, ?_⟩, ?_⟩
    · exact owe_load rfl (wants_all rfl) rfl (k := 0) rfl (by kernel_rfl) (loads_of strct_int shp_zx) rfl
    · exact owe_call1 rfl (wants_all rfl) rfl (opnd_op 0 12 (by kernel_rfl) rfl) (fresh_is _) rfl (fun args w => by go_simp) (fun w u h1 => g_zbits (by omega) w u ((zx_zv' eA (Nat.le_refl _)) _ _ h1))
    · exact owe_move rfl (wants_all rfl) (Or.inr rfl) (opnd_op 1 13 (by kernel_rfl) rfl) rfl
  intro B3 a3 W3 S3
  replace S3 : Sta w 40 [(2, (.box 24 (Zx true p n c xs))), (4, (.box 24 (Is (.agg #[.bool false, .slice none 0 0]))))] [(6, (Is (.int .i64 (Go.bitLen (A).natAbs : Nat)))), (10, (Is (.bool false))), (5, (Is (.int .i64 0))), (1, (Is (.int .i64 z)))] B3 a3 W3 := S3
  refine wp_stmt_seq [.val (Is (.int .i64 (Go.bitLen (A).natAbs : Nat))),
      .val (Is (.bool false)),
      .val (Is (.bool false)),
      .off,
      .off,
      .off,
      .off,
      .val (Is (.bool false))] [.inr 0, .inr 1] [.inl 7, .inr 1, .inr 2, .inr 3] follows S3 rfl (by kernel_rfl) ?_ ?_
  · refine ⟨⟨⟨⟨⟨⟨⟨⟨trivial, ?_⟩, ?_⟩, ?_⟩, ?_⟩, ?_⟩, ?_⟩, ?_⟩, ?_⟩
    · exact owe_move rfl (wants_all rfl) (Or.inl rfl) (opnd_slot 0 6 rfl (by kernel_rfl)) rfl
    · exact owe_bin rfl (wants_all rfl) rfl (opnd_op 0 14 (by kernel_rfl) rfl) (opnd_const _) rfl (fun ρ w h1 h2 => by exact run_gtr_int_f ρ _ _ _ w _ _ hs h1 h2)
    · exact owe_move rfl (wants_all rfl) (Or.inl rfl) (opnd_op 1 15 (by kernel_rfl) rfl) rfl
    · exact owe_off 2 16 rfl rfl rfl (by kernel_rfl) rfl (by decide)
    · exact owe_off 2 16 rfl rfl rfl (by kernel_rfl) rfl (by decide)
    · exact owe_off 2 16 rfl rfl rfl (by kernel_rfl) rfl (by decide)
    · exact owe_off 2 16 rfl rfl rfl (by kernel_rfl) rfl (by decide)
    · exact owe_pick rfl (wants_all rfl) rfl (opnd_op 2 16 (by kernel_rfl) rfl) (fun h => nomatch h) (fun _ => (opnd_const _)) rfl
  intro B4 a4 W4 S4
  replace S4 : Sta w 40 [(2, (.box 24 (Zx true p n c xs))), (4, (.box 24 (Is (.agg #[.bool false, .slice none 0 0]))))] [(21, (Is (.bool false))), (10, (Is (.bool false))), (5, (Is (.int .i64 0))), (1, (Is (.int .i64 z)))] B4 a4 W4 := S4
  refine wp_cond_false (S4.bool 0 21 rfl) ?_
  refine wp_skip ?_
  refine thenN ?_
  refine wp_stmt_seq [.val (Part a4 2 1),
      .val (Nx p n c xs),
      .val (Is (.int .i64 z)),
      .val ((TWO (NN ((val xs) ^ z.toNat)) (IS (.int .i64 0))) w.heap.size),
      .val ((TWO (NN ((val xs) ^ z.toNat)) (IS (.int .i64 0))) w.heap.size),
      .val ((NN ((val xs) ^ z.toNat)) w.heap.size),
      .val (Is (.int .i64 0)),
      .val ((NN ((val xs) ^ z.toNat)) w.heap.size),
      .val (Is (.int .i64 0))] [.inr 0, .inr 1] [.inl 7, .inl 8, .inr 0, .inr 1, .inr 2, .inr 3] follows S4 rfl (by kernel_rfl) ?_ ?_
  · refine ⟨⟨⟨⟨⟨⟨⟨⟨⟨trivial, ?_⟩, ?_⟩, ?_⟩, ?_⟩, ?_⟩, ?_⟩, ?_⟩, ?_⟩, ?_⟩
    · exact owe_part rfl (wants_all rfl) rfl (k := 0) rfl (by kernel_rfl) rfl (fun ρ w b h => part_int1 ρ _ _ w b 0 h)
    · exact owe_pload rfl (wants_all rfl) rfl (opnd_op 0 24 (by kernel_rfl) rfl) (k := 0) rfl (by kernel_rfl) rfl (fun ρ w b u h1 h2 h3 => pload_mag zx_mag ρ _ _ w b u h1 h2 h3)
    · exact owe_move rfl (wants_all rfl) (Or.inl rfl) (opnd_slot 3 1 rfl (by kernel_rfl)) rfl
    · exact owe_call2 rfl (wants_all rfl) rfl (opnd_op 1 25 (by kernel_rfl) rfl) (opnd_op 2 26 (by kernel_rfl) rfl) (fresh_two (fresh_nn _) (fresh_is _)) rfl (fun args w => by go_simp) (fun w u v h1 h2 => g_pow (by omega) hz hb w u v ((nx_nv (Nat.le_refl _)) _ _ h1) h2)
    · exact owe_move rfl (wants_all rfl) (Or.inl rfl) (opnd_op 3 27 (by kernel_rfl) rfl) rfl
    · exact owe_ext2 rfl (wants_all rfl) rfl (opnd_op 4 23 (by kernel_rfl) rfl) (Or.inl ⟨rfl, rfl⟩) rfl
    · exact owe_ext2 rfl (wants_all rfl) rfl (opnd_op 4 23 (by kernel_rfl) rfl) (Or.inr ⟨rfl, rfl⟩) rfl
    · exact owe_move rfl (wants_all rfl) (Or.inr rfl) (opnd_op 5 28 (by kernel_rfl) rfl) rfl
    · exact owe_move rfl (wants_all rfl) (Or.inr rfl) (opnd_op 6 29 (by kernel_rfl) rfl) rfl
  intro B5 a5 W5 S5
  replace S5 : Sta w 40 [(2, (.box 24 (Zx true p n c xs))), (4, (.box 24 (Is (.agg #[.bool false, .slice none 0 0]))))] [(7, ((NN ((val xs) ^ z.toNat)) w.heap.size)), (8, (Is (.int .i64 0))), (21, (Is (.bool false))), (10, (Is (.bool false))), (5, (Is (.int .i64 0))), (1, (Is (.int .i64 z)))] B5 a5 W5 := S5
  refine wp_stmt_seq [.val (Part a5 2 0),
      .val (Is (.bool true)),
      .val (Is (.bool true)),
      .val (Is (.int .i64 z)),
      .val (Is (.int .i64 (z % 2))),
      .val (Is (.bool false)),
      .val (Is (.bool false)),
      .val ((NN ((val xs) ^ z.toNat)) w.heap.size),
      .val ((ZN (sg false ((val xs) ^ z.toNat))) w.heap.size),
      .val (Is (.int .i64 0)),
      .put (.inl 4) (.box 24 ((ZN (sg false ((val xs) ^ z.toNat))) w.heap.size)),
      .val (Is (.int .i64 0))] [.inr 0, .inr 1] [.inl 11, .inr 2, .inr 3, .inr 5] follows S5 rfl (by kernel_rfl) ?_ ?_
  · refine ⟨⟨⟨⟨⟨⟨⟨⟨⟨⟨⟨⟨trivial, ?_⟩, ?_⟩, ?_⟩, ?_⟩, ?_⟩, ?_⟩, ?_⟩, ?_⟩, ?_⟩, ?_⟩, ?_⟩, ?_⟩
    · exact owe_part rfl (wants_all rfl) rfl (k := 0) rfl (by kernel_rfl) rfl (fun ρ w b h => part_int0 ρ _ _ w b 0 h)
    · exact owe_pload rfl (wants_all rfl) rfl (opnd_op 0 30 (by kernel_rfl) rfl) (k := 0) rfl (by kernel_rfl) rfl (fun ρ w b u h1 h2 h3 => pload_neg zx_neg ρ _ _ w b u h1 h2 h3)
    · exact owe_move rfl (wants_all rfl) (Or.inl rfl) (opnd_op 1 31 (by kernel_rfl) rfl) rfl
    · exact owe_move rfl (wants_if 2 32 rfl (by kernel_rfl) rfl) (Or.inl rfl) (opnd_slot 5 1 rfl (by kernel_rfl)) rfl
    · exact owe_bin rfl (wants_if 2 32 rfl (by kernel_rfl) rfl) rfl (opnd_op 3 33 (by kernel_rfl) rfl) (opnd_const _) rfl (fun ρ w h1 h2 => by exact run_rem_int ρ _ _ _ w _ _ _ ⟨rfl, hz, by omega, by omega⟩ h1 h2)
    · exact owe_bin rfl (wants_if 2 32 rfl (by kernel_rfl) rfl) rfl (opnd_op 4 34 (by kernel_rfl) rfl) (opnd_const _) rfl (fun ρ w h1 h2 => by exact run_eql_int_f ρ _ _ _ w _ _ ho h1 h2)
    · exact owe_pick rfl (wants_all rfl) rfl (opnd_op 2 32 (by kernel_rfl) rfl) (fun _ => (opnd_op 5 35 (by kernel_rfl) rfl)) (fun h => nomatch h) rfl
    · exact owe_move rfl (wants_all rfl) (Or.inl rfl) (opnd_slot 0 7 rfl (by kernel_rfl)) rfl
    · exact owe_callF2 rfl (wants_all rfl) rfl (opnd_op 6 36 (by kernel_rfl) rfl) (opnd_op 7 37 (by kernel_rfl) rfl) rfl (fun args w => by go_simp) g_signed
    · exact owe_move rfl (wants_all rfl) (Or.inl rfl) (opnd_slot 1 8 rfl (by kernel_rfl)) rfl
    · exact owe_set rfl (wants_all rfl) rfl (k := 1) rfl (by kernel_rfl) (opnd_op 8 38 (by kernel_rfl) rfl) (stores_of strct_int shp_z0 shp_zn) rfl
    · exact owe_move rfl (wants_all rfl) (Or.inr rfl) (opnd_op 9 39 (by kernel_rfl) rfl) rfl
  intro B6 a6 W6 S6
  replace S6 : Sta w 40 [(2, (.box 24 (Zx true p n c xs))), (4, (.box 24 ((ZN (sg false ((val xs) ^ z.toNat))) w.heap.size)))] [(5, (Is (.int .i64 0))), (21, (Is (.bool false))), (10, (Is (.bool false))), (1, (Is (.int .i64 z)))] B6 a6 W6 := S6
  refine wp_ret ?_
  exact end_two S6 rfl (res_cell S6 1 4 rfl strct_int shp_zn) (res_tmp S6 0 5 rfl)

set_option maxHeartbeats 400000 in
theorem zpw_v10 (w : World) (p : Option Addr) (n c : Nat) (xs : List Nat) (z : Int) (h : Sl w p n c xs) (A : Int) (eA : sg false (val xs) = A) (hn : n ≤ 1048576) (hz0 : -9223372036854775808 ≤ z) (hz9 : z ≤ 9223372036854775807) (hz : 0 ≤ z) (hs : (0 : Int) < ((Go.bitLen A.natAbs : Nat) : Int)) (hq : z ≤ 65536 / ((Go.bitLen A.natAbs : Nat) : Int)) (hb : z = 0 ∨ Go.bitLen (val xs) ≤ 1 ∨ z ≤ 1048576 / ((Go.bitLen (val xs) : Nat) : Int)) :
    Calls Try.prog 5 #[.agg #[.bool false, .slice p n c], .int .i64 z] w (Gives (TWO (ZN (sg false (val xs ^ z.toNat))) (IS (.int .i64 0))) w) := by
  refine calls_sta (sl := [(0, (Zx false p n c xs)), (1, (Is (.int .i64 z)))]) Try.func5 rfl Try.ntmps5 (by simp) (args_cons rfl (zx_has h) (args_cons rfl (is_has _) args_nil)) ?_
  intro a0 S0
  refine wp_stmt_seq [.new (.box 24 (Zx false p n c xs)),
      .new (.box 24 (Is (.agg #[.bool false, .slice none 0 0]))),
      .val (Is (.int .i64 0))] [.inl 0, .inl 1] [.inl 2, .inr 1] follows S0 rfl (by kernel_rfl) ?_ ?_
  · refine ⟨⟨⟨trivial, ?_⟩, ?_⟩, ?_⟩
    · exact owe_box rfl (wants_all rfl) rfl (opnd_slot 0 0 rfl (by kernel_rfl)) rfl (fun ρ w h => box_int shp_zx ρ _ _ w h)
    · exact owe_new rfl (wants_all rfl) rfl rfl (fun ρ w => alloc_int ρ _ w)
    · exact owe_move rfl (wants_all rfl) (Or.inr rfl) (opnd_const _) rfl
  intro B1 a1 W1 S1
  replace S1 : Sta w 40 [(2, (.box 24 (Zx false p n c xs))), (4, (.box 24 (Is (.agg #[.bool false, .slice none 0 0]))))] [(5, (Is (.int .i64 0))), (1, (Is (.int .i64 z)))] B1 a1 W1 := S1
  refine wp_seq ?_
  refine wp_stmt_seq [.val (Is (.int .i64 z)),
      .val (Is (.bool false))] [.inr 0, .inr 1] [.inl 1, .inr 0, .inr 1] follows S1 rfl (by kernel_rfl) ?_ ?_
  · refine ⟨⟨trivial, ?_⟩, ?_⟩
    · exact owe_move rfl (wants_all rfl) (Or.inl rfl) (opnd_slot 1 1 rfl (by kernel_rfl)) rfl
    · exact owe_bin rfl (wants_all rfl) rfl (opnd_op 0 9 (by kernel_rfl) rfl) (opnd_const _) rfl (fun ρ w h1 h2 => by exact run_lss_int_f ρ _ _ _ w _ _ hz h1 h2)
  intro B2 a2 W2 S2
  replace S2 : Sta w 40 [(2, (.box 24 (Zx false p n c xs))), (4, (.box 24 (Is (.agg #[.bool false, .slice none 0 0]))))] [(10, (Is (.bool false))), (5, (Is (.int .i64 0))), (1, (Is (.int .i64 z)))] B2 a2 W2 := S2
  refine wp_cond_false (S2.bool 0 10 rfl) ?_
  refine wp_skip ?_
  refine thenN ?_
  refine wp_seq ?_
  refine wp_stmt_seq [.val (Zx false p n c xs),
      .val (Is (.int .i64 (Go.bitLen (A).natAbs : Nat))),
      .val (Is (.int .i64 (Go.bitLen (A).natAbs : Nat)))] [.inr 0, .inr 1] [.inl 2, .inr 0, .inr 1, .inr 2] follows S2 rfl (by kernel_rfl) ?_ ?_
  · refine ⟨⟨⟨trivial, ?_⟩, ?_⟩, ?_⟩
    · exact owe_load rfl (wants_all rfl) rfl (k := 0) rfl (by kernel_rfl) (loads_of strct_int shp_zx) rfl
    · exact owe_call1 rfl (wants_all rfl) rfl (opnd_op 0 12 (by kernel_rfl) rfl) (fresh_is _) rfl (fun args w => by go_simp) (fun w u h1 => g_zbits (by omega) w u ((zx_zv' eA (Nat.le_refl _)) _ _ h1))
    · exact owe_move rfl (wants_all rfl) (Or.inr rfl) (opnd_op 1 13 (by kernel_rfl) rfl) rfl
  intro B3 a3 W3 S3
  replace S3 : Sta w 40 [(2, (.box 24 (Zx false p n c xs))), (4, (.box 24 (Is (.agg #[.bool false, .slice none 0 0]))))] [(6, (Is (.int .i64 (Go.bitLen (A).natAbs : Nat)))), (10, (Is (.bool false))), (5, (Is (.int .i64 0))), (1, (Is (.int .i64 z)))] B3 a3 W3 := S3
  refine wp_stmt_seq [.val (Is (.int .i64 (Go.bitLen (A).natAbs : Nat))),
      .val (Is (.bool true)),
      .val (Is (.bool true)),
      .val (Is (.int .i64 z)),
      .val (Is (.int .i64 (Go.bitLen (A).natAbs : Nat))),
      .val (Is (.int .i64 (65536 / ((Go.bitLen A.natAbs : Nat) : Int)))),
      .val (Is (.bool false)),
      .val (Is (.bool false))] [.inr 0, .inr 1] [.inl 7, .inr 1, .inr 2, .inr 3] follows S3 rfl (by kernel_rfl) ?_ ?_
  · refine ⟨⟨⟨⟨⟨⟨⟨⟨trivial, ?_⟩, ?_⟩, ?_⟩, ?_⟩, ?_⟩, ?_⟩, ?_⟩, ?_⟩
    · exact owe_move rfl (wants_all rfl) (Or.inl rfl) (opnd_slot 0 6 rfl (by kernel_rfl)) rfl
    · exact owe_bin rfl (wants_all rfl) rfl (opnd_op 0 14 (by kernel_rfl) rfl) (opnd_const _) rfl (fun ρ w h1 h2 => by exact run_gtr_int_t ρ _ _ _ w _ _ hs h1 h2)
    · exact owe_move rfl (wants_all rfl) (Or.inl rfl) (opnd_op 1 15 (by kernel_rfl) rfl) rfl
    · exact owe_move rfl (wants_if 2 16 rfl (by kernel_rfl) rfl) (Or.inl rfl) (opnd_slot 3 1 rfl (by kernel_rfl)) rfl
    · exact owe_move rfl (wants_if 2 16 rfl (by kernel_rfl) rfl) (Or.inl rfl) (opnd_slot 0 6 rfl (by kernel_rfl)) rfl
    · exact owe_bin rfl (wants_if 2 16 rfl (by kernel_rfl) rfl) rfl (opnd_const _) (opnd_op 4 18 (by kernel_rfl) rfl) rfl (fun ρ w h1 h2 => by exact run_quo_int ρ _ _ _ w _ _ _ ⟨rfl, by omega, by omega, by omega⟩ h1 h2)
    · exact owe_bin rfl (wants_if 2 16 rfl (by kernel_rfl) rfl) rfl (opnd_op 3 17 (by kernel_rfl) rfl) (opnd_op 5 19 (by kernel_rfl) rfl) rfl (fun ρ w h1 h2 => by exact run_gtr_int_f ρ _ _ _ w _ _ hq h1 h2)
    · exact owe_pick rfl (wants_all rfl) rfl (opnd_op 2 16 (by kernel_rfl) rfl) (fun _ => (opnd_op 6 20 (by kernel_rfl) rfl)) (fun h => nomatch h) rfl
  intro B4 a4 W4 S4
  replace S4 : Sta w 40 [(2, (.box 24 (Zx false p n c xs))), (4, (.box 24 (Is (.agg #[.bool false, .slice none 0 0]))))] [(21, (Is (.bool false))), (10, (Is (.bool false))), (5, (Is (.int .i64 0))), (1, (Is (.int .i64 z)))] B4 a4 W4 := S4
  refine wp_cond_false (S4.bool 0 21 rfl) ?_
  refine wp_skip ?_
  refine thenN ?_
  refine wp_stmt_seq [.val (Part a4 2 1),
      .val (Nx p n c xs),
      .val (Is (.int .i64 z)),
      .val ((TWO (NN ((val xs) ^ z.toNat)) (IS (.int .i64 0))) w.heap.size),
      .val ((TWO (NN ((val xs) ^ z.toNat)) (IS (.int .i64 0))) w.heap.size),
      .val ((NN ((val xs) ^ z.toNat)) w.heap.size),
      .val (Is (.int .i64 0)),
      .val ((NN ((val xs) ^ z.toNat)) w.heap.size),
      .val (Is (.int .i64 0))] [.inr 0, .inr 1] [.inl 7, .inl 8, .inr 0, .inr 1, .inr 2, .inr 3] follows S4 rfl (by kernel_rfl) ?_ ?_
  · refine ⟨⟨⟨⟨⟨⟨⟨⟨⟨trivial, ?_⟩, ?_⟩, ?_⟩, ?_⟩, ?_⟩, ?_⟩, ?_⟩, ?_⟩, ?_⟩
    · exact owe_part rfl (wants_all rfl) rfl (k := 0) rfl (by kernel_rfl) rfl (fun ρ w b h => part_int1 ρ _ _ w b 0 h)
    · exact owe_pload rfl (wants_all rfl) rfl (opnd_op 0 24 (by kernel_rfl) rfl) (k := 0) rfl (by kernel_rfl) rfl (fun ρ w b u h1 h2 h3 => pload_mag zx_mag ρ _ _ w b u h1 h2 h3)
    · exact owe_move rfl (wants_all rfl) (Or.inl rfl) (opnd_slot 3 1 rfl (by kernel_rfl)) rfl
    · exact owe_call2 rfl (wants_all rfl) rfl (opnd_op 1 25 (by kernel_rfl) rfl) (opnd_op 2 26 (by kernel_rfl) rfl) (fresh_two (fresh_nn _) (fresh_is _)) rfl (fun args w => by go_simp) (fun w u v h1 h2 => g_pow (by omega) hz hb w u v ((nx_nv (Nat.le_refl _)) _ _ h1) h2)
    · exact owe_move rfl (wants_all rfl) (Or.inl rfl) (opnd_op 3 27 (by kernel_rfl) rfl) rfl
    · exact owe_ext2 rfl (wants_all rfl) rfl (opnd_op 4 23 (by kernel_rfl) rfl) (Or.inl ⟨rfl, rfl⟩) rfl
    · exact owe_ext2 rfl (wants_all rfl) rfl (opnd_op 4 23 (by kernel_rfl) rfl) (Or.inr ⟨rfl, rfl⟩) rfl
    · exact owe_move rfl (wants_all rfl) (Or.inr rfl) (opnd_op 5 28 (by kernel_rfl) rfl) rfl
    · exact owe_move rfl (wants_all rfl) (Or.inr rfl) (opnd_op 6 29 (by kernel_rfl) rfl) rfl
  intro B5 a5 W5 S5
  replace S5 : Sta w 40 [(2, (.box 24 (Zx false p n c xs))), (4, (.box 24 (Is (.agg #[.bool false, .slice none 0 0]))))] [(7, ((NN ((val xs) ^ z.toNat)) w.heap.size)), (8, (Is (.int .i64 0))), (21, (Is (.bool false))), (10, (Is (.bool false))), (5, (Is (.int .i64 0))), (1, (Is (.int .i64 z)))] B5 a5 W5 := S5
  refine wp_stmt_seq [.val (Part a5 2 0),
      .val (Is (.bool false)),
      .val (Is (.bool false)),
      .off,
      .off,
      .off,
      .val (Is (.bool false)),
      .val ((NN ((val xs) ^ z.toNat)) w.heap.size),
      .val ((ZN (sg false ((val xs) ^ z.toNat))) w.heap.size),
      .val (Is (.int .i64 0)),
      .put (.inl 4) (.box 24 ((ZN (sg false ((val xs) ^ z.toNat))) w.heap.size)),
      .val (Is (.int .i64 0))] [.inr 0, .inr 1] [.inl 11, .inr 2, .inr 3, .inr 5] follows S5 rfl (by kernel_rfl) ?_ ?_
  · refine ⟨⟨⟨⟨⟨⟨⟨⟨⟨⟨⟨⟨trivial, ?_⟩, ?_⟩, ?_⟩, ?_⟩, ?_⟩, ?_⟩, ?_⟩, ?_⟩, ?_⟩, ?_⟩, ?_⟩, ?_⟩
    · exact owe_part rfl (wants_all rfl) rfl (k := 0) rfl (by kernel_rfl) rfl (fun ρ w b h => part_int0 ρ _ _ w b 0 h)
    · exact owe_pload rfl (wants_all rfl) rfl (opnd_op 0 30 (by kernel_rfl) rfl) (k := 0) rfl (by kernel_rfl) rfl (fun ρ w b u h1 h2 h3 => pload_neg zx_neg ρ _ _ w b u h1 h2 h3)
    · exact owe_move rfl (wants_all rfl) (Or.inl rfl) (opnd_op 1 31 (by kernel_rfl) rfl) rfl
    · exact owe_off 2 32 rfl rfl rfl (by kernel_rfl) rfl (by decide)
    · exact owe_off 2 32 rfl rfl rfl (by kernel_rfl) rfl (by decide)
    · exact owe_off 2 32 rfl rfl rfl (by kernel_rfl) rfl (by decide)
    · exact owe_pick rfl (wants_all rfl) rfl (opnd_op 2 32 (by kernel_rfl) rfl) (fun h => nomatch h) (fun _ => (opnd_const _)) rfl
    · exact owe_move rfl (wants_all rfl) (Or.inl rfl) (opnd_slot 0 7 rfl (by kernel_rfl)) rfl
    · exact owe_callF2 rfl (wants_all rfl) rfl (opnd_op 6 36 (by kernel_rfl) rfl) (opnd_op 7 37 (by kernel_rfl) rfl) rfl (fun args w => by go_simp) g_signed
    · exact owe_move rfl (wants_all rfl) (Or.inl rfl) (opnd_slot 1 8 rfl (by kernel_rfl)) rfl
    · exact owe_set rfl (wants_all rfl) rfl (k := 1) rfl (by kernel_rfl) (opnd_op 8 38 (by kernel_rfl) rfl) (stores_of strct_int shp_z0 shp_zn) rfl
    · exact owe_move rfl (wants_all rfl) (Or.inr rfl) (opnd_op 9 39 (by kernel_rfl) rfl) rfl
  intro B6 a6 W6 S6
  replace S6 : Sta w 40 [(2, (.box 24 (Zx false p n c xs))), (4, (.box 24 ((ZN (sg false ((val xs) ^ z.toNat))) w.heap.size)))] [(5, (Is (.int .i64 0))), (21, (Is (.bool false))), (10, (Is (.bool false))), (1, (Is (.int .i64 z)))] B6 a6 W6 := S6
  refine wp_ret ?_
  exact end_two S6 rfl (res_cell S6 1 4 rfl strct_int shp_zn) (res_tmp S6 0 5 rfl)

set_option maxHeartbeats 400000 in
theorem zpw_v11 (w : World) (p : Option Addr) (n c : Nat) (xs : List Nat) (z : Int) (h : Sl w p n c xs) (A : Int) (eA : sg true (val xs) = A) (hn : n ≤ 1048576) (hz0 : -9223372036854775808 ≤ z) (hz9 : z ≤ 9223372036854775807) (hz : 0 ≤ z) (hs : (0 : Int) < ((Go.bitLen A.natAbs : Nat) : Int)) (hq : z ≤ 65536 / ((Go.bitLen A.natAbs : Nat) : Int)) (ho : z % 2 = 1) (hb : z = 0 ∨ Go.bitLen (val xs) ≤ 1 ∨ z ≤ 1048576 / ((Go.bitLen (val xs) : Nat) : Int)) :
    Calls Try.prog 5 #[.agg #[.bool true, .slice p n c], .int .i64 z] w (Gives (TWO (ZN (sg true (val xs ^ z.toNat))) (IS (.int .i64 0))) w) := by
  refine calls_sta (sl := [(0, (Zx true p n c xs)), (1, (Is (.int .i64 z)))]) Try.func5 rfl Try.ntmps5 (by simp) (args_cons rfl (zx_has h) (args_cons rfl (is_has _) args_nil)) ?_
  intro a0 S0
  refine wp_stmt_seq [.new (.box 24 (Zx true p n c xs)),
      .new (.box 24 (Is (.agg #[.bool false, .slice none 0 0]))),
      .val (Is (.int .i64 0))] [.inl 0, .inl 1] [.inl 2, .inr 1] follows S0 rfl (by kernel_rfl) ?_ ?_
  · refine ⟨⟨⟨trivial, ?_⟩, ?_⟩, ?_⟩
    · exact owe_box rfl (wants_all rfl) rfl (opnd_slot 0 0 rfl (by kernel_rfl)) rfl (fun ρ w h => box_int shp_zx ρ _ _ w h)
    · exact owe_new rfl (wants_all rfl) rfl rfl (fun ρ w => alloc_int ρ _ w)
    · exact owe_move rfl (wants_all rfl) (Or.inr rfl) (opnd_const _) rfl
  intro B1 a1 W1 S1
  replace S1 : Sta w 40 [(2, (.box 24 (Zx true p n c xs))), (4, (.box 24 (Is (.agg #[.bool false, .slice none 0 0]))))] [(5, (Is (.int .i64 0))), (1, (Is (.int .i64 z)))] B1 a1 W1 := S1
  refine wp_seq ?_
  refine wp_stmt_seq [.val (Is (.int .i64 z)),
      .val (Is (.bool false))] [.inr 0, .inr 1] [.inl 1, .inr 0, .inr 1] follows S1 rfl (by kernel_rfl) ?_ ?_
  · refine ⟨⟨trivial, ?_⟩, ?_⟩
    · exact owe_move rfl (wants_all rfl) (Or.inl rfl) (opnd_slot 1 1 rfl (by kernel_rfl)) rfl
    · exact owe_bin rfl (wants_all rfl) rfl (opnd_op 0 9 (by kernel_rfl) rfl) (opnd_const _) rfl (fun ρ w h1 h2 => by exact run_lss_int_f ρ _ _ _ w _ _ hz h1 h2)
  intro B2 a2 W2 S2
  replace S2 : Sta w 40 [(2, (.box 24 (Zx true p n c xs))), (4, (.box 24 (Is (.agg #[.bool false, .slice none 0 0]))))] [(10, (Is (.bool false))), (5, (Is (.int .i64 0))), (1, (Is (.int .i64 z)))] B2 a2 W2 := S2
  refine wp_cond_false (S2.bool 0 10 rfl) ?_
  refine wp_skip ?_
  refine thenN ?_
  refine wp_seq ?_
  refine wp_stmt_seq [.val (Zx true p n c xs),
      .val (Is (.int .i64 (Go.bitLen (A).natAbs : Nat))),
      .val (Is (.int .i64 (Go.bitLen (A).natAbs : Nat)))] [.inr 0, .inr 1] [.inl 2, .inr 0, .inr 1, .inr 2] follows S2 rfl (by kernel_rfl) ?_ ?_
  · refine ⟨⟨⟨trivial, ?_⟩, ?_⟩, ?_⟩
    · exact owe_load rfl (wants_all rfl) rfl (k := 0) rfl (by kernel_rfl) (loads_of strct_int shp_zx) rfl
    · exact owe_call1 rfl (wants_all rfl) rfl (opnd_op 0 12 (by kernel_rfl) rfl) (fresh_is _) rfl (fun args w => by go_simp) (fun w u h1 => g_zbits (by omega) w u ((zx_zv' eA (Nat.le_refl _)) _ _ h1))
    · exact owe_move rfl (wants_all rfl) (Or.inr rfl) (opnd_op 1 13 (by kernel_rfl) rfl) rfl
  intro B3 a3 W3 S3
  replace S3 : Sta w 40 [(2, (.box 24 (Zx true p n c xs))), (4, (.box 24 (Is (.agg #[.bool false, .slice none 0 0]))))] [(6, (Is (.int .i64 (Go.bitLen (A).natAbs : Nat)))), (10, (Is (.bool false))), (5, (Is (.int .i64 0))), (1, (Is (.int .i64 z)))] B3 a3 W3 := S3
  refine wp_stmt_seq [.val (Is (.int .i64 (Go.bitLen (A).natAbs : Nat))),
      .val (Is (.bool true)),
      .val (Is (.bool true)),
      .val (Is (.int .i64 z)),
      .val (Is (.int .i64 (Go.bitLen (A).natAbs : Nat))),
      .val (Is (.int .i64 (65536 / ((Go.bitLen A.natAbs : Nat) : Int)))),
      .val (Is (.bool false)),
      .val (Is (.bool false))] [.inr 0, .inr 1] [.inl 7, .inr 1, .inr 2, .inr 3] follows S3 rfl (by kernel_rfl) ?_ ?_
  · refine ⟨⟨⟨⟨⟨⟨⟨⟨trivial, ?_⟩, ?_⟩, ?_⟩, ?_⟩, ?_⟩, ?_⟩, ?_⟩, ?_⟩
    · exact owe_move rfl (wants_all rfl) (Or.inl rfl) (opnd_slot 0 6 rfl (by kernel_rfl)) rfl
    · exact owe_bin rfl (wants_all rfl) rfl (opnd_op 0 14 (by kernel_rfl) rfl) (opnd_const _) rfl (fun ρ w h1 h2 => by exact run_gtr_int_t ρ _ _ _ w _ _ hs h1 h2)
    · exact owe_move rfl (wants_all rfl) (Or.inl rfl) (opnd_op 1 15 (by kernel_rfl) rfl) rfl
    · exact owe_move rfl (wants_if 2 16 rfl (by kernel_rfl) rfl) (Or.inl rfl) (opnd_slot 3 1 rfl (by kernel_rfl)) rfl
    · exact owe_move rfl (wants_if 2 16 rfl (by kernel_rfl) rfl) (Or.inl rfl) (opnd_slot 0 6 rfl (by kernel_rfl)) rfl
    · exact owe_bin rfl (wants_if 2 16 rfl (by kernel_rfl) rfl) rfl (opnd_const _) (opnd_op 4 18 (by kernel_rfl) rfl) rfl (fun ρ w h1 h2 => by exact run_quo_int ρ _ _ _ w _ _ _ ⟨rfl, by omega, by omega, by omega⟩ h1 h2)
    · exact owe_bin rfl (wants_if 2 16 rfl (by kernel_rfl) rfl) rfl (opnd_op 3 17 (by kernel_rfl) rfl) (opnd_op 5 19 (by kernel_rfl) rfl) rfl (fun ρ w h1 h2 => by exact run_gtr_int_f ρ _ _ _ w _ _ hq h1 h2)
    · exact owe_pick rfl (wants_all rfl) rfl (opnd_op 2 16 (by kernel_rfl) rfl) (fun _ => (opnd_op 6 20 (by kernel_rfl) rfl)) (fun h => nomatch h) rfl
  intro B4 a4 W4 S4
  replace S4 : Sta w 40 [(2, (.box 24 (Zx true p n c xs))), (4, (.box 24 (Is (.agg #[.bool false, .slice none 0 0]))))] [(21, (Is (.bool false))), (10, (Is (.bool false))), (5, (Is (.int .i64 0))), (1, (Is (.int .i64 z)))] B4 a4 W4 := S4
  refine wp_cond_false (S4.bool 0 21 rfl) ?_
  refine wp_skip ?_
  refine thenN ?_
  refine wp_stmt_seq [.val (Part a4 2 1),
      .val (Nx p n c xs),
      .val (Is (.int .i64 z)),
      .val ((TWO (NN ((val xs) ^ z.toNat)) (IS (.int .i64 0))) w.heap.size),
      .val ((TWO (NN ((val xs) ^ z.toNat)) (IS (.int .i64 0))) w.heap.size),
      .val ((NN ((val xs) ^ z.toNat)) w.heap.size),
      .val (Is (.int .i64 0)),
      .val ((NN ((val xs) ^ z.toNat)) w.heap.size),
      .val (Is (.int .i64 0))] [.inr 0, .inr 1] [.inl 7, .inl 8, .inr 0, .inr 1, .inr 2, .inr 3] follows S4 rfl (by kernel_rfl) ?_ ?_
  · refine ⟨⟨⟨⟨⟨⟨⟨⟨⟨trivial, ?_⟩, ?_⟩, ?_⟩, ?_⟩, ?_⟩, ?_⟩, ?_⟩, ?_⟩, ?_⟩
    · exact owe_part rfl (wants_all rfl) rfl (k := 0) rfl (by kernel_rfl) rfl (fun ρ w b h => part_int1 ρ _ _ w b 0 h)
    · exact owe_pload rfl (wants_all rfl) rfl (opnd_op 0 24 (by kernel_rfl) rfl) (k := 0) rfl (by kernel_rfl) rfl (fun ρ w b u h1 h2 h3 => pload_mag zx_mag ρ _ _ w b u h1 h2 h3)
    · exact owe_move rfl (wants_all rfl) (Or.inl rfl) (opnd_slot 3 1 rfl (by kernel_rfl)) rfl
    · exact owe_call2 rfl (wants_all rfl) rfl (opnd_op 1 25 (by kernel_rfl) rfl) (opnd_op 2 26 (by kernel_rfl) rfl) (fresh_two (fresh_nn _) (fresh_is _)) rfl (fun args w => by go_simp) (fun w u v h1 h2 => g_pow (by omega) hz hb w u v ((nx_nv (Nat.le_refl _)) _ _ h1) h2)
    · exact owe_move rfl (wants_all rfl) (Or.inl rfl) (opnd_op 3 27 (by kernel_rfl) rfl) rfl
    · exact owe_ext2 rfl (wants_all rfl) rfl (opnd_op 4 23 (by kernel_rfl) rfl) (Or.inl ⟨rfl, rfl⟩) rfl
    · exact owe_ext2 rfl (wants_all rfl) rfl (opnd_op 4 23 (by kernel_rfl) rfl) (Or.inr ⟨rfl, rfl⟩) rfl
    · exact owe_move rfl (wants_all rfl) (Or.inr rfl) (opnd_op 5 28 (by kernel_rfl) rfl) rfl
    · exact owe_move rfl (wants_all rfl) (Or.inr rfl) (opnd_op 6 29 (by kernel_rfl) rfl) rfl
  intro B5 a5 W5 S5
  replace S5 : Sta w 40 [(2, (.box 24 (Zx true p n c xs))), (4, (.box 24 (Is (.agg #[.bool false, .slice none 0 0]))))] [(7, ((NN ((val xs) ^ z.toNat)) w.heap.size)), (8, (Is (.int .i64 0))), (21, (Is (.bool false))), (10, (Is (.bool false))), (5, (Is (.int .i64 0))), (1, (Is (.int .i64 z)))] B5 a5 W5 := S5
  refine wp_stmt_seq [.val (Part a5 2 0),
      .val (Is (.bool true)),
      .val (Is (.bool true)),
      .val (Is (.int .i64 z)),
      .val (Is (.int .i64 (z % 2))),
      .val (Is (.bool true)),
      .val (Is (.bool true)),
      .val ((NN ((val xs) ^ z.toNat)) w.heap.size),
      .val ((ZN (sg true ((val xs) ^ z.toNat))) w.heap.size),
      .val (Is (.int .i64 0)),
      .put (.inl 4) (.box 24 ((ZN (sg true ((val xs) ^ z.toNat))) w.heap.size)),
      .val (Is (.int .i64 0))] [.inr 0, .inr 1] [.inl 11, .inr 2, .inr 3, .inr 5] follows S5 rfl (by kernel_rfl) ?_ ?_
  · refine ⟨⟨⟨⟨⟨⟨⟨⟨⟨⟨⟨⟨trivial, ?_⟩, ?_⟩, ?_⟩, ?_⟩, ?_⟩, ?_⟩, ?_⟩, ?_⟩, ?_⟩, ?_⟩, ?_⟩, ?_⟩
    · exact owe_part rfl (wants_all rfl) rfl (k := 0) rfl (by kernel_rfl) rfl (fun ρ w b h => part_int0 ρ _ _ w b 0 h)
    · exact owe_pload rfl (wants_all rfl) rfl (opnd_op 0 30 (by kernel_rfl) rfl) (k := 0) rfl (by kernel_rfl) rfl (fun ρ w b u h1 h2 h3 => pload_neg zx_neg ρ _ _ w b u h1 h2 h3)
    · exact owe_move rfl (wants_all rfl) (Or.inl rfl) (opnd_op 1 31 (by kernel_rfl) rfl) rfl
    · exact owe_move rfl (wants_if 2 32 rfl (by kernel_rfl) rfl) (Or.inl rfl) (opnd_slot 5 1 rfl (by kernel_rfl)) rfl
    · exact owe_bin rfl (wants_if 2 32 rfl (by kernel_rfl) rfl) rfl (opnd_op 3 33 (by kernel_rfl) rfl) (opnd_const _) rfl (fun ρ w h1 h2 => by exact run_rem_int ρ _ _ _ w _ _ _ ⟨rfl, hz, by omega, by omega⟩ h1 h2)
    · exact owe_bin rfl (wants_if 2 32 rfl (by kernel_rfl) rfl) rfl (opnd_op 4 34 (by kernel_rfl) rfl) (opnd_const _) rfl (fun ρ w h1 h2 => by exact run_eql_int_t ρ _ _ _ w _ _ ho h1 h2)
    · exact owe_pick rfl (wants_all rfl) rfl (opnd_op 2 32 (by kernel_rfl) rfl) (fun _ => (opnd_op 5 35 (by kernel_rfl) rfl)) (fun h => nomatch h) rfl
    · exact owe_move rfl (wants_all rfl) (Or.inl rfl) (opnd_slot 0 7 rfl (by kernel_rfl)) rfl
    · exact owe_callF2 rfl (wants_all rfl) rfl (opnd_op 6 36 (by kernel_rfl) rfl) (opnd_op 7 37 (by kernel_rfl) rfl) rfl (fun args w => by go_simp) g_signed
    · exact owe_move rfl (wants_all rfl) (Or.inl rfl) (opnd_slot 1 8 rfl (by kernel_rfl)) rfl
    · exact owe_set rfl (wants_all rfl) rfl (k := 1) rfl (by kernel_rfl) (opnd_op 8 38 (by kernel_rfl) rfl) (stores_of strct_int shp_z0 shp_zn) rfl
    · exact owe_move rfl (wants_all rfl) (Or.inr rfl) (opnd_op 9 39 (by kernel_rfl) rfl) rfl
  intro B6 a6 W6 S6
  replace S6 : Sta w 40 [(2, (.box 24 (Zx true p n c xs))), (4, (.box 24 ((ZN (sg true ((val xs) ^ z.toNat))) w.heap.size)))] [(5, (Is (.int .i64 0))), (21, (Is (.bool false))), (10, (Is (.bool false))), (1, (Is (.int .i64 z)))] B6 a6 W6 := S6
  refine wp_ret ?_
  exact end_two S6 rfl (res_cell S6 1 4 rfl strct_int shp_zn) (res_tmp S6 0 5 rfl)

set_option maxHeartbeats 400000 in
theorem zpw_v12 (w : World) (p : Option Addr) (n c : Nat) (xs : List Nat) (z : Int) (h : Sl w p n c xs) (A : Int) (eA : sg true (val xs) = A) (hn : n ≤ 1048576) (hz0 : -9223372036854775808 ≤ z) (hz9 : z ≤ 9223372036854775807) (hz : 0 ≤ z) (hs : (0 : Int) < ((Go.bitLen A.natAbs : Nat) : Int)) (hq : z ≤ 65536 / ((Go.bitLen A.natAbs : Nat) : Int)) (ho : z % 2 ≠ 1) (hb : z = 0 ∨ Go.bitLen (val xs) ≤ 1 ∨ z ≤ 1048576 / ((Go.bitLen (val xs) : Nat) : Int)) :
    Calls Try.prog 5 #[.agg #[.bool true, .slice p n c], .int .i64 z] w (Gives (TWO (ZN (sg false (val xs ^ z.toNat))) (IS (.int .i64 0))) w) := by
  refine calls_sta (sl := [(0, (Zx true p n c xs)), (1, (Is (.int .i64 z)))]) Try.func5 rfl Try.ntmps5 (by simp) (args_cons rfl (zx_has h) (args_cons rfl (is_has _) args_nil)) ?_
  intro a0 S0
  refine wp_stmt_seq [.new (.box 24 (Zx true p n c xs)),
      .new (.box 24 (Is (.agg #[.bool false, .slice none 0 0]))),
      .val (Is (.int .i64 0))] [.inl 0, .inl 1] [.inl 2, .inr 1] follows S0 rfl (by kernel_rfl) ?_ ?_
  · refine ⟨⟨⟨trivial, ?_⟩, ?_⟩, ?_⟩
    · exact owe_box rfl (wants_all rfl) rfl (opnd_slot 0 0 rfl (by kernel_rfl)) rfl (fun ρ w h => box_int shp_zx ρ _ _ w h)
    · exact owe_new rfl (wants_all rfl) rfl rfl (fun ρ w => alloc_int ρ _ w)
    · exact owe_move rfl (wants_all rfl) (Or.inr rfl) (opnd_const _) rfl
  intro B1 a1 W1 S1
  replace S1 : Sta w 40 [(2, (.box 24 (Zx true p n c xs))), (4, (.box 24 (Is (.agg #[.bool false, .slice none 0 0]))))] [(5, (Is (.int .i64 0))), (1, (Is (.int .i64 z)))] B1 a1 W1 := S1
  refine wp_seq ?_
  refine wp_stmt_seq [.val (Is (.int .i64 z)),
      .val (Is (.bool false))] [.inr 0, .inr 1] [.inl 1, .inr 0, .inr 1] follows S1 rfl (by kernel_rfl) ?_ ?_
  · refine ⟨⟨trivial, ?_⟩, ?_⟩
    · exact owe_move rfl (wants_all rfl) (Or.inl rfl) (opnd_slot 1 1 rfl (by kernel_rfl)) rfl
    · exact owe_bin rfl (wants_all rfl) rfl (opnd_op 0 9 (by kernel_rfl) rfl) (opnd_const _) rfl (fun ρ w h1 h2 => by exact run_lss_int_f ρ _ _ _ w _ _ hz h1 h2)
  intro B2 a2 W2 S2
  replace S2 : Sta w 40 [(2, (.box 24 (Zx true p n c xs))), (4, (.box 24 (Is (.agg #[.bool false, .slice none 0 0]))))] [(10, (Is (.bool false))), (5, (Is (.int .i64 0))), (1, (Is (.int .i64 z)))] B2 a2 W2 := S2
  refine wp_cond_false (S2.bool 0 10 rfl) ?_
  refine wp_skip ?_
  refine thenN ?_
  refine wp_seq ?_
  refine wp_stmt_seq [.val (Zx true p n c xs),
      .val (Is (.int .i64 (Go.bitLen (A).natAbs : Nat))),
      .val (Is (.int .i64 (Go.bitLen (A).natAbs : Nat)))] [.inr 0, .inr 1] [.inl 2, .inr 0, .inr 1, .inr 2] follows S2 rfl (by kernel_rfl) ?_ ?_
  · refine ⟨⟨⟨trivial, ?_⟩, ?_⟩, ?_⟩
    · exact owe_load rfl (wants_all rfl) rfl (k := 0) rfl (by kernel_rfl) (loads_of strct_int shp_zx) rfl
    · exact owe_call1 rfl (wants_all rfl) rfl (opnd_op 0 12 (by kernel_rfl) rfl) (fresh_is _) rfl (fun args w => by go_simp) (fun w u h1 => g_zbits (by omega) w u ((zx_zv' eA (Nat.le_refl _)) _ _ h1))
    · exact owe_move rfl (wants_all rfl) (Or.inr rfl) (opnd_op 1 13 (by kernel_rfl) rfl) rfl
  intro B3 a3 W3 S3
  replace S3 : Sta w 40 [(2, (.box 24 (Zx true p n c xs))), (4, (.box 24 (Is (.agg #[.bool false, .slice none 0 0]))))] [(6, (Is (.int .i64 (Go.bitLen (A).natAbs : Nat)))), (10, (Is (.bool false))), (5, (Is (.int .i64 0))), (1, (Is (.int .i64 z)))] B3 a3 W3 := S3
  refine wp_stmt_seq [.val (Is (.int .i64 (Go.bitLen (A).natAbs : Nat))),
      .val (Is (.bool true)),
      .val (Is (.bool true)),
      .val (Is (.int .i64 z)),
      .val (Is (.int .i64 (Go.bitLen (A).natAbs : Nat))),
      .val (Is (.int .i64 (65536 / ((Go.bitLen A.natAbs : Nat) : Int)))),
      .val (Is (.bool false)),
      .val (Is (.bool false))] [.inr 0, .inr 1] [.inl 7, .inr 1, .inr 2, .inr 3] follows S3 rfl (by kernel_rfl) ?_ ?_
  · refine ⟨⟨⟨⟨⟨⟨⟨⟨trivial, ?_⟩, ?_⟩, ?_⟩, ?_⟩, ?_⟩, ?_⟩, ?_⟩, ?_⟩
    · exact owe_move rfl (wants_all rfl) (Or.inl rfl) (opnd_slot 0 6 rfl (by kernel_rfl)) rfl
    · exact owe_bin rfl (wants_all rfl) rfl (opnd_op 0 14 (by kernel_rfl) rfl) (opnd_const _) rfl (fun ρ w h1 h2 => by exact run_gtr_int_t ρ _ _ _ w _ _ hs h1 h2)
    · exact owe_move rfl (wants_all rfl) (Or.inl rfl) (opnd_op 1 15 (by kernel_rfl) rfl) rfl
    · exact owe_move rfl (wants_if 2 16 rfl (by kernel_rfl) rfl) (Or.inl rfl) (opnd_slot 3 1 rfl (by kernel_rfl)) rfl
    · exact owe_move rfl (wants_if 2 16 rfl (by kernel_rfl) rfl) (Or.inl rfl) (opnd_slot 0 6 rfl (by kernel_rfl)) rfl
    · exact owe_bin rfl (wants_if 2 16 rfl (by kernel_rfl) rfl) rfl (opnd_const _) (opnd_op 4 18 (by kernel_rfl) rfl) rfl (fun ρ w h1 h2 => by exact run_quo_int ρ _ _ _ w _ _ _ ⟨rfl, by omega, by omega, by omega⟩ h1 h2)
    · exact owe_bin rfl (wants_if 2 16 rfl (by kernel_rfl) rfl) rfl (opnd_op 3 17 (by kernel_rfl) rfl) (opnd_op 5 19 (by kernel_rfl) rfl) rfl (fun ρ w h1 h2 => by exact run_gtr_int_f ρ _ _ _ w _ _ hq h1 h2)
    · exact owe_pick rfl (wants_all rfl) rfl (opnd_op 2 16 (by kernel_rfl) rfl) (fun _ => (opnd_op 6 20 (by kernel_rfl) rfl)) (fun h => nomatch h) rfl
  intro B4 a4 W4 S4
  replace S4 : Sta w 40 [(2, (.box 24 (Zx true p n c xs))), (4, (.box 24 (Is (.agg #[.bool false, .slice none 0 0]))))] [(21, (Is (.bool false))), (10, (Is (.bool false))), (5, (Is (.int .i64 0))), (1, (Is (.int .i64 z)))] B4 a4 W4 := S4
  refine wp_cond_false (S4.bool 0 21 rfl) ?_
  refine wp_skip ?_
  refine thenN ?_
  refine wp_stmt_seq [.val (Part a4 2 1),
      .val (Nx p n c xs),
      .val (Is (.int .i64 z)),
      .val ((TWO (NN ((val xs) ^ z.toNat)) (IS (.int .i64 0))) w.heap.size),
      .val ((TWO (NN ((val xs) ^ z.toNat)) (IS (.int .i64 0))) w.heap.size),
      .val ((NN ((val xs) ^ z.toNat)) w.heap.size),
      .val (Is (.int .i64 0)),
      .val ((NN ((val xs) ^ z.toNat)) w.heap.size),
      .val (Is (.int .i64 0))] [.inr 0, .inr 1] [.inl 7, .inl 8, .inr 0, .inr 1, .inr 2, .inr 3] follows S4 rfl (by kernel_rfl) ?_ ?_
  · refine ⟨⟨⟨⟨⟨⟨⟨⟨⟨trivial, ?_⟩, ?_⟩, ?_⟩, ?_⟩, ?_⟩, ?_⟩, ?_⟩, ?_⟩, ?_⟩
    · exact owe_part rfl (wants_all rfl) rfl (k := 0) rfl (by kernel_rfl) rfl (fun ρ w b h => part_int1 ρ _ _ w b 0 h)
    · exact owe_pload rfl (wants_all rfl) rfl (opnd_op 0 24 (by kernel_rfl) rfl) (k := 0) rfl (by kernel_rfl) rfl (fun ρ w b u h1 h2 h3 => pload_mag zx_mag ρ _ _ w b u h1 h2 h3)
    · exact owe_move rfl (wants_all rfl) (Or.inl rfl) (opnd_slot 3 1 rfl (by kernel_rfl)) rfl
    · exact owe_call2 rfl (wants_all rfl) rfl (opnd_op 1 25 (by kernel_rfl) rfl) (opnd_op 2 26 (by kernel_rfl) rfl) (fresh_two (fresh_nn _) (fresh_is _)) rfl (fun args w => by go_simp) (fun w u v h1 h2 => g_pow (by omega) hz hb w u v ((nx_nv (Nat.le_refl _)) _ _ h1) h2)
    · exact owe_move rfl (wants_all rfl) (Or.inl rfl) (opnd_op 3 27 (by kernel_rfl) rfl) rfl
    · exact owe_ext2 rfl (wants_all rfl) rfl (opnd_op 4 23 (by kernel_rfl) rfl) (Or.inl ⟨rfl, rfl⟩) rfl
    · exact owe_ext2 rfl (wants_all rfl) rfl (opnd_op 4 23 (by kernel_rfl) rfl) (Or.inr ⟨rfl, rfl⟩) rfl
    · exact owe_move rfl (wants_all rfl) (Or.inr rfl) (opnd_op 5 28 (by kernel_rfl) rfl) rfl
    · exact owe_move rfl (wants_all rfl) (Or.inr rfl) (opnd_op 6 29 (by kernel_rfl) rfl) rfl
  intro B5 a5 W5 S5
  replace S5 : Sta w 40 [(2, (.box 24 (Zx true p n c xs))), (4, (.box 24 (Is (.agg #[.bool false, .slice none 0 0]))))] [(7, ((NN ((val xs) ^ z.toNat)) w.heap.size)), (8, (Is (.int .i64 0))), (21, (Is (.bool false))), (10, (Is (.bool false))), (5, (Is (.int .i64 0))), (1, (Is (.int .i64 z)))] B5 a5 W5 := S5
  refine wp_stmt_seq [.val (Part a5 2 0),
      .val (Is (.bool true)),
      .val (Is (.bool true)),
      .val (Is (.int .i64 z)),
      .val (Is (.int .i64 (z % 2))),
      .val (Is (.bool false)),
      .val (Is (.bool false)),
      .val ((NN ((val xs) ^ z.toNat)) w.heap.size),
      .val ((ZN (sg false ((val xs) ^ z.toNat))) w.heap.size),
      .val (Is (.int .i64 0)),
      .put (.inl 4) (.box 24 ((ZN (sg false ((val xs) ^ z.toNat))) w.heap.size)),
      .val (Is (.int .i64 0))] [.inr 0, .inr 1] [.inl 11, .inr 2, .inr 3, .inr 5] follows S5 rfl (by kernel_rfl) ?_ ?_
  · refine ⟨⟨⟨⟨⟨⟨⟨⟨⟨⟨⟨⟨trivial, ?_⟩, ?_⟩, ?_⟩, ?_⟩, ?_⟩, ?_⟩, ?_⟩, ?_⟩, ?_⟩, ?_⟩, ?_⟩, ?_⟩
    · exact owe_part rfl (wants_all rfl) rfl (k := 0) rfl (by kernel_rfl) rfl (fun ρ w b h => part_int0 ρ _ _ w b 0 h)
    · exact owe_pload rfl (wants_all rfl) rfl (opnd_op 0 30 (by kernel_rfl) rfl) (k := 0) rfl (by kernel_rfl) rfl (fun ρ w b u h1 h2 h3 => pload_neg zx_neg ρ _ _ w b u h1 h2 h3)
    · exact owe_move rfl (wants_all rfl) (Or.inl rfl) (opnd_op 1 31 (by kernel_rfl) rfl) rfl
    · exact owe_move rfl (wants_if 2 32 rfl (by kernel_rfl) rfl) (Or.inl rfl) (opnd_slot 5 1 rfl (by kernel_rfl)) rfl
    · exact owe_bin rfl (wants_if 2 32 rfl (by kernel_rfl) rfl) rfl (opnd_op 3 33 (by kernel_rfl) rfl) (opnd_const _) rfl (fun ρ w h1 h2 => by exact run_rem_int ρ _ _ _ w _ _ _ ⟨rfl, hz, by omega, by omega⟩ h1 h2)
    · exact owe_bin rfl (wants_if 2 32 rfl (by kernel_rfl) rfl) rfl (opnd_op 4 34 (by kernel_rfl) rfl) (opnd_const _) rfl (fun ρ w h1 h2 => by exact run_eql_int_f ρ _ _ _ w _ _ ho h1 h2)
    · exact owe_pick rfl (wants_all rfl) rfl (opnd_op 2 32 (by kernel_rfl) rfl) (fun _ => (opnd_op 5 35 (by kernel_rfl) rfl)) (fun h => nomatch h) rfl
    · exact owe_move rfl (wants_all rfl) (Or.inl rfl) (opnd_slot 0 7 rfl (by kernel_rfl)) rfl
    · exact owe_callF2 rfl (wants_all rfl) rfl (opnd_op 6 36 (by kernel_rfl) rfl) (opnd_op 7 37 (by kernel_rfl) rfl) rfl (fun args w => by go_simp) g_signed
    · exact owe_move rfl (wants_all rfl) (Or.inl rfl) (opnd_slot 1 8 rfl (by kernel_rfl)) rfl
    · exact owe_set rfl (wants_all rfl) rfl (k := 1) rfl (by kernel_rfl) (opnd_op 8 38 (by kernel_rfl) rfl) (stores_of strct_int shp_z0 shp_zn) rfl
    · exact owe_move rfl (wants_all rfl) (Or.inr rfl) (opnd_op 9 39 (by kernel_rfl) rfl) rfl
  intro B6 a6 W6 S6
  replace S6 : Sta w 40 [(2, (.box 24 (Zx true p n c xs))), (4, (.box 24 ((ZN (sg false ((val xs) ^ z.toNat))) w.heap.size)))] [(5, (Is (.int .i64 0))), (21, (Is (.bool false))), (10, (Is (.bool false))), (1, (Is (.int .i64 z)))] B6 a6 W6 := S6
  refine wp_ret ?_
  exact end_two S6 rfl (res_cell S6 1 4 rfl strct_int shp_zn) (res_tmp S6 0 5 rfl)

set_option maxHeartbeats 400000 in
theorem rpw_w0 (w : World) (s : Bool) (p : Option Addr) (n c : Nat) (xs : List Nat) (z : Int) (h : Sl w p n c xs) (A : Int) (eA : sg s (val xs) = A) (hn : n ≤ 1048576) (hz0 : -9223372036854775808 ≤ z) (hz9 : z ≤ 9223372036854775807) (hz : z < 0) :
    Calls Try.prog 7 #[.agg #[.bool s, .slice p n c], .int .i64 z] w (Gives (TWO (IS (.agg #[.bool false, .slice none 0 0])) (IS (.int .i64 1))) w) := by
  refine calls_sta (sl := [(0, (Zx s p n c xs)), (1, (Is (.int .i64 z)))]) Try.func7 rfl Try.ntmps7 (by simp) (args_cons rfl (zx_has h) (args_cons rfl (is_has _) args_nil)) ?_
  intro a0 S0
  refine wp_stmt_seq [.new (.box 24 (Zx s p n c xs)),
      .new (.box 24 (Is (.agg #[.bool false, .slice none 0 0]))),
      .val (Is (.int .i64 0))] [.inl 0, .inl 1] [.inl 2, .inr 1] follows S0 rfl (by kernel_rfl) ?_ ?_
  · refine ⟨⟨⟨trivial, ?_⟩, ?_⟩, ?_⟩
    · exact owe_box rfl (wants_all rfl) rfl (opnd_slot 0 0 rfl (by kernel_rfl)) rfl (fun ρ w h => box_int shp_zx ρ _ _ w h)
    · exact owe_new rfl (wants_all rfl) rfl rfl (fun ρ w => alloc_int ρ _ w)
    · exact owe_move rfl (wants_all rfl) (Or.inr rfl) (opnd_const _) rfl
  intro B1 a1 W1 S1
  replace S1 : Sta w 40 [(2, (.box 24 (Zx s p n c xs))), (4, (.box 24 (Is (.agg #[.bool false, .slice none 0 0]))))] [(5, (Is (.int .i64 0))), (1, (Is (.int .i64 z)))] B1 a1 W1 := S1
  refine wp_seq ?_
  refine wp_stmt_seq [.val (Is (.int .i64 z)),
      .val (Is (.bool true))] [.inr 0, .inr 1] [.inl 1, .inr 0, .inr 1] follows S1 rfl (by kernel_rfl) ?_ ?_
  · refine ⟨⟨trivial, ?_⟩, ?_⟩
    · exact owe_move rfl (wants_all rfl) (Or.inl rfl) (opnd_slot 1 1 rfl (by kernel_rfl)) rfl
    · exact owe_bin rfl (wants_all rfl) rfl (opnd_op 0 8 (by kernel_rfl) rfl) (opnd_const _) rfl (fun ρ w h1 h2 => by exact run_lss_int_t ρ _ _ _ w _ _ hz h1 h2)
  intro B2 a2 W2 S2
  replace S2 : Sta w 40 [(2, (.box 24 (Zx s p n c xs))), (4, (.box 24 (Is (.agg #[.bool false, .slice none 0 0]))))] [(9, (Is (.bool true))), (5, (Is (.int .i64 0))), (1, (Is (.int .i64 z)))] B2 a2 W2 := S2
  refine wp_cond_true (S2.bool 0 9 rfl) ?_
  refine wp_stmt_seq [.val (Is (.agg #[.bool false, .slice none 0 0])),
      .put (.inl 4) (.box 24 (Is (.agg #[.bool false, .slice none 0 0]))),
      .val (Is (.int .i64 1))] [.inr 0, .inr 1] [.inl 2, .inr 0, .inr 2] follows S2 rfl (by kernel_rfl) ?_ ?_
  · refine ⟨⟨⟨trivial, ?_⟩, ?_⟩, ?_⟩
    · exact owe_build_int rfl (wants_all rfl) rfl rfl
    · exact owe_set rfl (wants_all rfl) rfl (k := 1) rfl (by kernel_rfl) (opnd_op 0 10 (by kernel_rfl) rfl) (stores_of strct_int shp_z0 shp_z0) rfl
    · exact owe_move rfl (wants_all rfl) (Or.inr rfl) (opnd_const _) rfl
  intro B3 a3 W3 S3
  replace S3 : Sta w 40 [(2, (.box 24 (Zx s p n c xs))), (4, (.box 24 (Is (.agg #[.bool false, .slice none 0 0]))))] [(5, (Is (.int .i64 1))), (9, (Is (.bool true))), (1, (Is (.int .i64 z)))] B3 a3 W3 := S3
  refine wp_ret ?_
  refine thenR ?_
  exact end_two S3 rfl (res_cell S3 1 4 rfl strct_int shp_z0) (res_tmp S3 0 5 rfl)

set_option maxHeartbeats 400000 in
theorem rpw_w1 (w : World) (s : Bool) (p : Option Addr) (n c : Nat) (xs : List Nat) (z : Int) (h : Sl w p n c xs) (A : Int) (eA : sg s (val xs) = A) (hn : n ≤ 1048576) (hz0 : -9223372036854775808 ≤ z) (hz9 : z ≤ 9223372036854775807) (hz : 0 ≤ z) (hs : (0 : Int) < ((Go.bitLen A.natAbs : Nat) : Int)) (hq : 65536 / ((Go.bitLen A.natAbs : Nat) : Int) < z) :
    Calls Try.prog 7 #[.agg #[.bool s, .slice p n c], .int .i64 z] w (Gives (TWO (IS (.agg #[.bool false, .slice none 0 0])) (IS (.int .i64 2))) w) := by
  refine calls_sta (sl := [(0, (Zx s p n c xs)), (1, (Is (.int .i64 z)))]) Try.func7 rfl Try.ntmps7 (by simp) (args_cons rfl (zx_has h) (args_cons rfl (is_has _) args_nil)) ?_
  intro a0 S0
  refine wp_stmt_seq [.new (.box 24 (Zx s p n c xs)),
      .new (.box 24 (Is (.agg #[.bool false, .slice none 0 0]))),
      .val (Is (.int .i64 0))] [.inl 0, .inl 1] [.inl 2, .inr 1] follows S0 rfl (by kernel_rfl) ?_ ?_
  · refine ⟨⟨⟨trivial, ?_⟩, ?_⟩, ?_⟩
    · exact owe_box rfl (wants_all rfl) rfl (opnd_slot 0 0 rfl (by kernel_rfl)) rfl (fun ρ w h => box_int shp_zx ρ _ _ w h)
    · exact owe_new rfl (wants_all rfl) rfl rfl (fun ρ w => alloc_int ρ _ w)
    · exact owe_move rfl (wants_all rfl) (Or.inr rfl) (opnd_const _) rfl
  intro B1 a1 W1 S1
  replace S1 : Sta w 40 [(2, (.box 24 (Zx s p n c xs))), (4, (.box 24 (Is (.agg #[.bool false, .slice none 0 0]))))] [(5, (Is (.int .i64 0))), (1, (Is (.int .i64 z)))] B1 a1 W1 := S1
  refine wp_seq ?_
  refine wp_stmt_seq [.val (Is (.int .i64 z)),
      .val (Is (.bool false))] [.inr 0, .inr 1] [.inl 1, .inr 0, .inr 1] follows S1 rfl (by kernel_rfl) ?_ ?_
  · refine ⟨⟨trivial, ?_⟩, ?_⟩
    · exact owe_move rfl (wants_all rfl) (Or.inl rfl) (opnd_slot 1 1 rfl (by kernel_rfl)) rfl
    · exact owe_bin rfl (wants_all rfl) rfl (opnd_op 0 8 (by kernel_rfl) rfl) (opnd_const _) rfl (fun ρ w h1 h2 => by exact run_lss_int_f ρ _ _ _ w _ _ hz h1 h2)
  intro B2 a2 W2 S2
  replace S2 : Sta w 40 [(2, (.box 24 (Zx s p n c xs))), (4, (.box 24 (Is (.agg #[.bool false, .slice none 0 0]))))] [(9, (Is (.bool false))), (5, (Is (.int .i64 0))), (1, (Is (.int .i64 z)))] B2 a2 W2 := S2
  refine wp_cond_false (S2.bool 0 9 rfl) ?_
  refine wp_skip ?_
  refine thenN ?_
  refine wp_seq ?_
  refine wp_stmt_seq [.val (Zx s p n c xs),
      .val (Is (.int .i64 (Go.bitLen (A).natAbs : Nat))),
      .val (Is (.bool true)),
      .val (Is (.bool true)),
      .val (Is (.int .i64 z)),
      .val (Zx s p n c xs),
      .val (Is (.int .i64 (Go.bitLen (A).natAbs : Nat))),
      .val (Is (.int .i64 (65536 / ((Go.bitLen A.natAbs : Nat) : Int)))),
      .val (Is (.bool true)),
      .val (Is (.bool true))] [.inr 0, .inr 1] [.inl 9, .inr 0, .inr 1, .inr 2] follows S2 rfl (by kernel_rfl) ?_ ?_
  · refine ⟨⟨⟨⟨⟨⟨⟨⟨⟨⟨trivial, ?_⟩, ?_⟩, ?_⟩, ?_⟩, ?_⟩, ?_⟩, ?_⟩, ?_⟩, ?_⟩, ?_⟩
    · exact owe_load rfl (wants_all rfl) rfl (k := 0) rfl (by kernel_rfl) (loads_of strct_int shp_zx) rfl
    · exact owe_call1 rfl (wants_all rfl) rfl (opnd_op 0 11 (by kernel_rfl) rfl) (fresh_is _) rfl (fun args w => by go_simp) (fun w u h1 => g_rbits (by omega) w u ((zx_zv' eA (Nat.le_refl _)) _ _ h1))
    · exact owe_bin rfl (wants_all rfl) rfl (opnd_op 1 12 (by kernel_rfl) rfl) (opnd_const _) rfl (fun ρ w h1 h2 => by exact run_gtr_int_t ρ _ _ _ w _ _ hs h1 h2)
    · exact owe_move rfl (wants_all rfl) (Or.inl rfl) (opnd_op 2 13 (by kernel_rfl) rfl) rfl
    · exact owe_move rfl (wants_if 3 14 rfl (by kernel_rfl) rfl) (Or.inl rfl) (opnd_slot 2 1 rfl (by kernel_rfl)) rfl
    · exact owe_load rfl (wants_if 3 14 rfl (by kernel_rfl) rfl) rfl (k := 0) rfl (by kernel_rfl) (loads_of strct_int shp_zx) rfl
    · exact owe_call1 rfl (wants_if 3 14 rfl (by kernel_rfl) rfl) rfl (opnd_op 5 16 (by kernel_rfl) rfl) (fresh_is _) rfl (fun args w => by go_simp) (fun w u h1 => g_rbits (by omega) w u ((zx_zv' eA (Nat.le_refl _)) _ _ h1))
    · exact owe_bin rfl (wants_if 3 14 rfl (by kernel_rfl) rfl) rfl (opnd_const _) (opnd_op 6 17 (by kernel_rfl) rfl) rfl (fun ρ w h1 h2 => by exact run_quo_int ρ _ _ _ w _ _ _ ⟨rfl, by omega, by omega, by omega⟩ h1 h2)
    · exact owe_bin rfl (wants_if 3 14 rfl (by kernel_rfl) rfl) rfl (opnd_op 4 15 (by kernel_rfl) rfl) (opnd_op 7 18 (by kernel_rfl) rfl) rfl (fun ρ w h1 h2 => by exact run_gtr_int_t ρ _ _ _ w _ _ hq h1 h2)
    · exact owe_pick rfl (wants_all rfl) rfl (opnd_op 3 14 (by kernel_rfl) rfl) (fun _ => (opnd_op 8 19 (by kernel_rfl) rfl)) (fun h => nomatch h) rfl
  intro B3 a3 W3 S3
  replace S3 : Sta w 40 [(2, (.box 24 (Zx s p n c xs))), (4, (.box 24 (Is (.agg #[.bool false, .slice none 0 0]))))] [(20, (Is (.bool true))), (9, (Is (.bool false))), (5, (Is (.int .i64 0))), (1, (Is (.int .i64 z)))] B3 a3 W3 := S3
  refine wp_cond_true (S3.bool 0 20 rfl) ?_
  refine wp_stmt_seq [.val (Is (.agg #[.bool false, .slice none 0 0])),
      .put (.inl 4) (.box 24 (Is (.agg #[.bool false, .slice none 0 0]))),
      .val (Is (.int .i64 2))] [.inr 0, .inr 1] [.inl 2, .inr 0, .inr 1, .inr 3] follows S3 rfl (by kernel_rfl) ?_ ?_
  · refine ⟨⟨⟨trivial, ?_⟩, ?_⟩, ?_⟩
    · exact owe_build_int rfl (wants_all rfl) rfl rfl
    · exact owe_set rfl (wants_all rfl) rfl (k := 1) rfl (by kernel_rfl) (opnd_op 0 21 (by kernel_rfl) rfl) (stores_of strct_int shp_z0 shp_z0) rfl
    · exact owe_move rfl (wants_all rfl) (Or.inr rfl) (opnd_const _) rfl
  intro B4 a4 W4 S4
  replace S4 : Sta w 40 [(2, (.box 24 (Zx s p n c xs))), (4, (.box 24 (Is (.agg #[.bool false, .slice none 0 0]))))] [(5, (Is (.int .i64 2))), (20, (Is (.bool true))), (9, (Is (.bool false))), (1, (Is (.int .i64 z)))] B4 a4 W4 := S4
  refine wp_ret ?_
  refine thenR ?_
  exact end_two S4 rfl (res_cell S4 1 4 rfl strct_int shp_z0) (res_tmp S4 0 5 rfl)

set_option maxHeartbeats 400000 in
theorem rpw_w2 (w : World) (s : Bool) (p : Option Addr) (n c : Nat) (xs : List Nat) (z : Int) (h : Sl w p n c xs) (A : Int) (eA : sg s (val xs) = A) (hn : n ≤ 1048576) (hz0 : -9223372036854775808 ≤ z) (hz9 : z ≤ 9223372036854775807) (hz : 0 < z) (hs : ((Go.bitLen A.natAbs : Nat) : Int) ≤ 0) (hA : A.sign = 0) :
    Calls Try.prog 7 #[.agg #[.bool s, .slice p n c], .int .i64 z] w (Gives (TWO (ZN (0)) (IS (.int .i64 0))) w) := by
  refine calls_sta (sl := [(0, (Zx s p n c xs)), (1, (Is (.int .i64 z)))]) Try.func7 rfl Try.ntmps7 (by simp) (args_cons rfl (zx_has h) (args_cons rfl (is_has _) args_nil)) ?_
  intro a0 S0
  refine wp_stmt_seq [.new (.box 24 (Zx s p n c xs)),
      .new (.box 24 (Is (.agg #[.bool false, .slice none 0 0]))),
      .val (Is (.int .i64 0))] [.inl 0, .inl 1] [.inl 2, .inr 1] follows S0 rfl (by kernel_rfl) ?_ ?_
  · refine ⟨⟨⟨trivial, ?_⟩, ?_⟩, ?_⟩
    · exact owe_box rfl (wants_all rfl) rfl (opnd_slot 0 0 rfl (by kernel_rfl)) rfl (fun ρ w h => box_int shp_zx ρ _ _ w h)
    · exact owe_new rfl (wants_all rfl) rfl rfl (fun ρ w => alloc_int ρ _ w)
    · exact owe_move rfl (wants_all rfl) (Or.inr rfl) (opnd_const _) rfl
  intro B1 a1 W1 S1
  replace S1 : Sta w 40 [(2, (.box 24 (Zx s p n c xs))), (4, (.box 24 (Is (.agg #[.bool false, .slice none 0 0]))))] [(5, (Is (.int .i64 0))), (1, (Is (.int .i64 z)))] B1 a1 W1 := S1
  refine wp_seq ?_
  refine wp_stmt_seq [.val (Is (.int .i64 z)),
      .val (Is (.bool false))] [.inr 0, .inr 1] [.inl 1, .inr 0, .inr 1] follows S1 rfl (by kernel_rfl) ?_ ?_
  · refine ⟨⟨trivial, ?_⟩, ?_⟩
    · exact owe_move rfl (wants_all rfl) (Or.inl rfl) (opnd_slot 1 1 rfl (by kernel_rfl)) rfl
    · exact owe_bin rfl (wants_all rfl) rfl (opnd_op 0 8 (by kernel_rfl) rfl) (opnd_const _) rfl (fun ρ w h1 h2 => by exact run_lss_int_f ρ _ _ _ w _ _ (by omega) h1 h2)
  intro B2 a2 W2 S2
  replace S2 : Sta w 40 [(2, (.box 24 (Zx s p n c xs))), (4, (.box 24 (Is (.agg #[.bool false, .slice none 0 0]))))] [(9, (Is (.bool false))), (5, (Is (.int .i64 0))), (1, (Is (.int .i64 z)))] B2 a2 W2 := S2
  refine wp_cond_false (S2.bool 0 9 rfl) ?_
  refine wp_skip ?_
  refine thenN ?_
  refine wp_seq ?_
  refine wp_stmt_seq [.val (Zx s p n c xs),
      .val (Is (.int .i64 (Go.bitLen (A).natAbs : Nat))),
      .val (Is (.bool false)),
      .val (Is (.bool false)),
      .off,
      .off,
      .off,
      .off,
      .off,
      .val (Is (.bool false))] [.inr 0, .inr 1] [.inl 9, .inr 0, .inr 1, .inr 2] follows S2 rfl (by kernel_rfl) ?_ ?_
  · refine ⟨⟨⟨⟨⟨⟨⟨⟨⟨⟨trivial, ?_⟩, ?_⟩, ?_⟩, ?_⟩, ?_⟩, ?_⟩, ?_⟩, ?_⟩, ?_⟩, ?_⟩
    · exact owe_load rfl (wants_all rfl) rfl (k := 0) rfl (by kernel_rfl) (loads_of strct_int shp_zx) rfl
    · exact owe_call1 rfl (wants_all rfl) rfl (opnd_op 0 11 (by kernel_rfl) rfl) (fresh_is _) rfl (fun args w => by go_simp) (fun w u h1 => g_rbits (by omega) w u ((zx_zv' eA (Nat.le_refl _)) _ _ h1))
    · exact owe_bin rfl (wants_all rfl) rfl (opnd_op 1 12 (by kernel_rfl) rfl) (opnd_const _) rfl (fun ρ w h1 h2 => by exact run_gtr_int_f ρ _ _ _ w _ _ hs h1 h2)
    · exact owe_move rfl (wants_all rfl) (Or.inl rfl) (opnd_op 2 13 (by kernel_rfl) rfl) rfl
    · exact owe_off 3 14 rfl rfl rfl (by kernel_rfl) rfl (by decide)
    · exact owe_off 3 14 rfl rfl rfl (by kernel_rfl) rfl (by decide)
    · exact owe_off 3 14 rfl rfl rfl (by kernel_rfl) rfl (by decide)
    · exact owe_off 3 14 rfl rfl rfl (by kernel_rfl) rfl (by decide)
    · exact owe_off 3 14 rfl rfl rfl (by kernel_rfl) rfl (by decide)
    · exact owe_pick rfl (wants_all rfl) rfl (opnd_op 3 14 (by kernel_rfl) rfl) (fun h => nomatch h) (fun _ => (opnd_const _)) rfl
  intro B3 a3 W3 S3
  replace S3 : Sta w 40 [(2, (.box 24 (Zx s p n c xs))), (4, (.box 24 (Is (.agg #[.bool false, .slice none 0 0]))))] [(20, (Is (.bool false))), (9, (Is (.bool false))), (5, (Is (.int .i64 0))), (1, (Is (.int .i64 z)))] B3 a3 W3 := S3
  refine wp_cond_false (S3.bool 0 20 rfl) ?_
  refine wp_skip ?_
  refine thenN ?_
  refine wp_seq ?_
  refine wp_stmt_seq [.val (Zx s p n c xs),
      .val (Is (.int .i64 (A).sign)),
      .val (Is (.bool true)),
      .val (Is (.bool true)),
      .val (Is (.int .i64 z)),
      .val (Is (.bool true)),
      .val (Is (.bool true))] [.inr 0, .inr 1] [.inl 6, .inr 0, .inr 1, .inr 2, .inr 3] follows S3 rfl (by kernel_rfl) ?_ ?_
  · refine ⟨⟨⟨⟨⟨⟨⟨trivial, ?_⟩, ?_⟩, ?_⟩, ?_⟩, ?_⟩, ?_⟩, ?_⟩
    · exact owe_load rfl (wants_all rfl) rfl (k := 0) rfl (by kernel_rfl) (loads_of strct_int shp_zx) rfl
    · exact owe_call1 rfl (wants_all rfl) rfl (opnd_op 0 22 (by kernel_rfl) rfl) (fresh_is _) rfl (fun args w => by go_simp) (fun w u h1 => g_rsign (by omega) w u ((zx_zv' eA (Nat.le_refl _)) _ _ h1))
    · exact owe_bin rfl (wants_all rfl) rfl (opnd_op 1 23 (by kernel_rfl) rfl) (opnd_const _) rfl (fun ρ w h1 h2 => by exact run_eql_int_t ρ _ _ _ w _ _ hA h1 h2)
    · exact owe_move rfl (wants_all rfl) (Or.inl rfl) (opnd_op 2 24 (by kernel_rfl) rfl) rfl
    · exact owe_move rfl (wants_if 3 25 rfl (by kernel_rfl) rfl) (Or.inl rfl) (opnd_slot 3 1 rfl (by kernel_rfl)) rfl
    · exact owe_bin rfl (wants_if 3 25 rfl (by kernel_rfl) rfl) rfl (opnd_op 4 26 (by kernel_rfl) rfl) (opnd_const _) rfl (fun ρ w h1 h2 => by exact run_gtr_int_t ρ _ _ _ w _ _ hz h1 h2)
    · exact owe_pick rfl (wants_all rfl) rfl (opnd_op 3 25 (by kernel_rfl) rfl) (fun _ => (opnd_op 5 27 (by kernel_rfl) rfl)) (fun h => nomatch h) rfl
  intro B4 a4 W4 S4
  replace S4 : Sta w 40 [(2, (.box 24 (Zx s p n c xs))), (4, (.box 24 (Is (.agg #[.bool false, .slice none 0 0]))))] [(28, (Is (.bool true))), (20, (Is (.bool false))), (9, (Is (.bool false))), (5, (Is (.int .i64 0))), (1, (Is (.int .i64 z)))] B4 a4 W4 := S4
  refine wp_cond_true (S4.bool 0 28 rfl) ?_
  refine wp_stmt_seq [.val ((ZN (0)) w.heap.size),
      .put (.inl 4) (.box 24 ((ZN (0)) w.heap.size)),
      .val (Is (.int .i64 0))] [.inr 0, .inr 1] [.inl 2, .inr 0, .inr 1, .inr 2, .inr 4] follows S4 rfl (by kernel_rfl) ?_ ?_
  · refine ⟨⟨⟨trivial, ?_⟩, ?_⟩, ?_⟩
    · exact owe_call1 rfl (wants_all rfl) rfl (opnd_const _) (fresh_zn _) rfl (fun args w => by go_simp) (g_rof 0 (by omega) (by omega))
    · exact owe_set rfl (wants_all rfl) rfl (k := 1) rfl (by kernel_rfl) (opnd_op 0 29 (by kernel_rfl) rfl) (stores_of strct_int shp_z0 shp_zn) rfl
    · exact owe_move rfl (wants_all rfl) (Or.inr rfl) (opnd_const _) rfl
  intro B5 a5 W5 S5
  replace S5 : Sta w 40 [(2, (.box 24 (Zx s p n c xs))), (4, (.box 24 ((ZN (0)) w.heap.size)))] [(5, (Is (.int .i64 0))), (28, (Is (.bool true))), (20, (Is (.bool false))), (9, (Is (.bool false))), (1, (Is (.int .i64 z)))] B5 a5 W5 := S5
  refine wp_ret ?_
  refine thenR ?_
  exact end_two S5 rfl (res_cell S5 1 4 rfl strct_int shp_zn) (res_tmp S5 0 5 rfl)

set_option maxHeartbeats 400000 in
theorem rpw_w3 (w : World) (s : Bool) (p : Option Addr) (n c : Nat) (xs : List Nat) (N : Nat) (h : Sl w p n c xs) (A : Int) (eA : sg s (val xs) = A) (hn : n ≤ 1048576) (hN : N ≤ 65536) (hs : (0 : Int) < ((Go.bitLen A.natAbs : Nat) : Int)) (hq : (N : Int) ≤ 65536 / ((Go.bitLen A.natAbs : Nat) : Int)) (hA : A.sign ≠ 0) :
    Calls Try.prog 7 #[.agg #[.bool s, .slice p n c], .int .i64 N] w (Gives (TWO (ZN (A ^ N)) (IS (.int .i64 0))) w) := by
  have dA : (digs A.natAbs).length ≤ n := by rw [← eA]; exact sg_dl h
  refine calls_sta (sl := [(0, (Zx s p n c xs)), (1, (Is (.int .i64 N)))]) Try.func7 rfl Try.ntmps7 (by simp) (args_cons rfl (zx_has h) (args_cons rfl (is_has _) args_nil)) ?_
  intro a0 S0
  refine wp_stmt_seq [.new (.box 24 (Zx s p n c xs)),
      .new (.box 24 (Is (.agg #[.bool false, .slice none 0 0]))),
      .val (Is (.int .i64 0))] [.inl 0, .inl 1] [.inl 2, .inr 1] follows S0 rfl (by kernel_rfl) ?_ ?_
  · refine ⟨⟨⟨trivial, ?_⟩, ?_⟩, ?_⟩
    · exact owe_box rfl (wants_all rfl) rfl (opnd_slot 0 0 rfl (by kernel_rfl)) rfl (fun ρ w h => box_int shp_zx ρ _ _ w h)
    · exact owe_new rfl (wants_all rfl) rfl rfl (fun ρ w => alloc_int ρ _ w)
    · exact owe_move rfl (wants_all rfl) (Or.inr rfl) (opnd_const _) rfl
  intro B1 a1 W1 S1
  replace S1 : Sta w 40 [(2, (.box 24 (Zx s p n c xs))), (4, (.box 24 (Is (.agg #[.bool false, .slice none 0 0]))))] [(5, (Is (.int .i64 0))), (1, (Is (.int .i64 N)))] B1 a1 W1 := S1
  refine wp_seq ?_
  refine wp_stmt_seq [.val (Is (.int .i64 N)),
      .val (Is (.bool false))] [.inr 0, .inr 1] [.inl 1, .inr 0, .inr 1] follows S1 rfl (by kernel_rfl) ?_ ?_
  · refine ⟨⟨trivial, ?_⟩, ?_⟩
    · exact owe_move rfl (wants_all rfl) (Or.inl rfl) (opnd_slot 1 1 rfl (by kernel_rfl)) rfl
    · exact owe_bin rfl (wants_all rfl) rfl (opnd_op 0 8 (by kernel_rfl) rfl) (opnd_const _) rfl (fun ρ w h1 h2 => by exact run_lss_int_f ρ _ _ _ w _ _ (by omega) h1 h2)
  intro B2 a2 W2 S2
  replace S2 : Sta w 40 [(2, (.box 24 (Zx s p n c xs))), (4, (.box 24 (Is (.agg #[.bool false, .slice none 0 0]))))] [(9, (Is (.bool false))), (5, (Is (.int .i64 0))), (1, (Is (.int .i64 N)))] B2 a2 W2 := S2
  refine wp_cond_false (S2.bool 0 9 rfl) ?_
  refine wp_skip ?_
  refine thenN ?_
  refine wp_seq ?_
  refine wp_stmt_seq [.val (Zx s p n c xs),
      .val (Is (.int .i64 (Go.bitLen (A).natAbs : Nat))),
      .val (Is (.bool true)),
      .val (Is (.bool true)),
      .val (Is (.int .i64 N)),
      .val (Zx s p n c xs),
      .val (Is (.int .i64 (Go.bitLen (A).natAbs : Nat))),
      .val (Is (.int .i64 (65536 / ((Go.bitLen A.natAbs : Nat) : Int)))),
      .val (Is (.bool false)),
      .val (Is (.bool false))] [.inr 0, .inr 1] [.inl 9, .inr 0, .inr 1, .inr 2] follows S2 rfl (by kernel_rfl) ?_ ?_
  · refine ⟨⟨⟨⟨⟨⟨⟨⟨⟨⟨trivial, ?_⟩, ?_⟩, ?_⟩, ?_⟩, ?_⟩, ?_⟩, ?_⟩, ?_⟩, ?_⟩, ?_⟩
    · exact owe_load rfl (wants_all rfl) rfl (k := 0) rfl (by kernel_rfl) (loads_of strct_int shp_zx) rfl
    · exact owe_call1 rfl (wants_all rfl) rfl (opnd_op 0 11 (by kernel_rfl) rfl) (fresh_is _) rfl (fun args w => by go_simp) (fun w u h1 => g_rbits (by omega) w u ((zx_zv' eA (Nat.le_refl _)) _ _ h1))
    · exact owe_bin rfl (wants_all rfl) rfl (opnd_op 1 12 (by kernel_rfl) rfl) (opnd_const _) rfl (fun ρ w h1 h2 => by exact run_gtr_int_t ρ _ _ _ w _ _ hs h1 h2)
    · exact owe_move rfl (wants_all rfl) (Or.inl rfl) (opnd_op 2 13 (by kernel_rfl) rfl) rfl
    · exact owe_move rfl (wants_if 3 14 rfl (by kernel_rfl) rfl) (Or.inl rfl) (opnd_slot 2 1 rfl (by kernel_rfl)) rfl
    · exact owe_load rfl (wants_if 3 14 rfl (by kernel_rfl) rfl) rfl (k := 0) rfl (by kernel_rfl) (loads_of strct_int shp_zx) rfl
    · exact owe_call1 rfl (wants_if 3 14 rfl (by kernel_rfl) rfl) rfl (opnd_op 5 16 (by kernel_rfl) rfl) (fresh_is _) rfl (fun args w => by go_simp) (fun w u h1 => g_rbits (by omega) w u ((zx_zv' eA (Nat.le_refl _)) _ _ h1))
    · exact owe_bin rfl (wants_if 3 14 rfl (by kernel_rfl) rfl) rfl (opnd_const _) (opnd_op 6 17 (by kernel_rfl) rfl) rfl (fun ρ w h1 h2 => by exact run_quo_int ρ _ _ _ w _ _ _ ⟨rfl, by omega, by omega, by omega⟩ h1 h2)
    · exact owe_bin rfl (wants_if 3 14 rfl (by kernel_rfl) rfl) rfl (opnd_op 4 15 (by kernel_rfl) rfl) (opnd_op 7 18 (by kernel_rfl) rfl) rfl (fun ρ w h1 h2 => by exact run_gtr_int_f ρ _ _ _ w _ _ hq h1 h2)
    · exact owe_pick rfl (wants_all rfl) rfl (opnd_op 3 14 (by kernel_rfl) rfl) (fun _ => (opnd_op 8 19 (by kernel_rfl) rfl)) (fun h => nomatch h) rfl
  intro B3 a3 W3 S3
  replace S3 : Sta w 40 [(2, (.box 24 (Zx s p n c xs))), (4, (.box 24 (Is (.agg #[.bool false, .slice none 0 0]))))] [(20, (Is (.bool false))), (9, (Is (.bool false))), (5, (Is (.int .i64 0))), (1, (Is (.int .i64 N)))] B3 a3 W3 := S3
  refine wp_cond_false (S3.bool 0 20 rfl) ?_
  refine wp_skip ?_
  refine thenN ?_
  refine wp_seq ?_
  refine wp_stmt_seq [.val (Zx s p n c xs),
      .val (Is (.int .i64 (A).sign)),
      .val (Is (.bool false)),
      .val (Is (.bool false)),
      .off,
      .off,
      .val (Is (.bool false))] [.inr 0, .inr 1] [.inl 6, .inr 0, .inr 1, .inr 2, .inr 3] follows S3 rfl (by kernel_rfl) ?_ ?_
  · refine ⟨⟨⟨⟨⟨⟨⟨trivial, ?_⟩, ?_⟩, ?_⟩, ?_⟩, ?_⟩, ?_⟩, ?_⟩
    · exact owe_load rfl (wants_all rfl) rfl (k := 0) rfl (by kernel_rfl) (loads_of strct_int shp_zx) rfl
    · exact owe_call1 rfl (wants_all rfl) rfl (opnd_op 0 22 (by kernel_rfl) rfl) (fresh_is _) rfl (fun args w => by go_simp) (fun w u h1 => g_rsign (by omega) w u ((zx_zv' eA (Nat.le_refl _)) _ _ h1))
    · exact owe_bin rfl (wants_all rfl) rfl (opnd_op 1 23 (by kernel_rfl) rfl) (opnd_const _) rfl (fun ρ w h1 h2 => by exact run_eql_int_f ρ _ _ _ w _ _ hA h1 h2)
    · exact owe_move rfl (wants_all rfl) (Or.inl rfl) (opnd_op 2 24 (by kernel_rfl) rfl) rfl
    · exact owe_off 3 25 rfl rfl rfl (by kernel_rfl) rfl (by decide)
    · exact owe_off 3 25 rfl rfl rfl (by kernel_rfl) rfl (by decide)
    · exact owe_pick rfl (wants_all rfl) rfl (opnd_op 3 25 (by kernel_rfl) rfl) (fun h => nomatch h) (fun _ => (opnd_const _)) rfl
  intro B4 a4 W4 S4
  replace S4 : Sta w 40 [(2, (.box 24 (Zx s p n c xs))), (4, (.box 24 (Is (.agg #[.bool false, .slice none 0 0]))))] [(28, (Is (.bool false))), (20, (Is (.bool false))), (9, (Is (.bool false))), (5, (Is (.int .i64 0))), (1, (Is (.int .i64 N)))] B4 a4 W4 := S4
  refine wp_cond_false (S4.bool 0 28 rfl) ?_
  refine wp_skip ?_
  refine thenN ?_
  refine wp_stmt_seq [.val ((ZN (A ^ 0)) w.heap.size),
      .new (.box 24 (Is (.agg #[.bool false, .slice none 0 0]))),
      .put (.inr 1) (.box 24 ((ZN (A ^ 0)) w.heap.size))] [.inr 0, .inr 1, .inl 1] [.inr 0, .inr 1, .inr 2, .inr 3, .inr 4] follows S4 rfl (by kernel_rfl) ?_ ?_
  · refine ⟨⟨⟨trivial, ?_⟩, ?_⟩, ?_⟩
    · exact owe_call1 rfl (wants_all rfl) rfl (opnd_const _) (fresh_zn _) rfl (fun args w => by go_simp) (fun w u0 h0 => Gives.cast ((g_rof 1 (by omega) (by omega)) w u0 h0) (by rw [Int.pow_zero]))
    · exact owe_new rfl (wants_all rfl) rfl rfl (fun ρ w => alloc_int ρ _ w)
    · exact owe_put 1 rfl (wants_all rfl) rfl (by kernel_rfl) rfl (opnd_op 0 30 (by kernel_rfl) rfl) (stores_of strct_int shp_z0 shp_zn) rfl
  intro B5 a5 W5 S5
  replace S5 : Sta w 40 [(2, (.box 24 (Zx s p n c xs))), (4, (.box 24 (Is (.agg #[.bool false, .slice none 0 0])))), (6, (.box 24 ((ZN (A ^ 0)) w.heap.size)))] [(28, (Is (.bool false))), (20, (Is (.bool false))), (9, (Is (.bool false))), (5, (Is (.int .i64 0))), (1, (Is (.int .i64 N)))] B5 a5 W5 := S5
  refine wp_seq ?_
  refine wp_stmt_seq [.val (Is (.int .i64 0))] [.inr 0, .inr 1, .inr 2] [.inl 0, .inr 0, .inr 1, .inr 2, .inr 3, .inr 4] follows S5 rfl (by kernel_rfl) ?_ ?_
  · refine ⟨trivial, ?_⟩
    · exact owe_move rfl (wants_all rfl) (Or.inr rfl) (opnd_const _) rfl
  intro B6 a6 W6 S6
  replace S6 : Sta w 40 [(2, (.box 24 (Zx s p n c xs))), (4, (.box 24 (Is (.agg #[.bool false, .slice none 0 0])))), (6, (.box 24 ((ZN (A ^ 0)) w.heap.size)))] [(7, (Is (.int .i64 0))), (28, (Is (.bool false))), (20, (Is (.bool false))), (9, (Is (.bool false))), (5, (Is (.int .i64 0))), (1, (Is (.int .i64 N)))] B6 a6 W6 := S6
  refine wp_block ?_
  refine wp_loop_ghost (fun (k : Nat) a W => (k ≤ N) ∧ ∃ B, Sta w 40 [(2, (.box 24 (Zx s p n c xs))), (4, (.box 24 (Is (.agg #[.bool false, .slice none 0 0])))), (6, (.box 24 ((ZN (A ^ k)) w.heap.size)))] [(7, (Is (.int .i64 k))), (1, (Is (.int .i64 N)))] B a W) (fun (k : Nat) => N - k) ?_ 0 ⟨Nat.zero_le _, B6, S6.sub [0, 1, 2] [0, 5]⟩
  rintro k a7 W7 ⟨hcond, B7, S7⟩
  by_cases hlt : k < N
  · have dk := ipow_len (N := k) dA (by omega) (by omega)
    refine wp_seq ?_
    refine wp_stmt_seq [.val (Is (.int .i64 k)),
      .val (Is (.int .i64 N)),
      .val (Is (.bool true))] [.inr 0, .inr 1, .inr 2] [.inl 2, .inr 0, .inr 1] follows S7 rfl (by kernel_rfl) ?_ ?_
    · refine ⟨⟨⟨trivial, ?_⟩, ?_⟩, ?_⟩
      · exact owe_move rfl (wants_all rfl) (Or.inl rfl) (opnd_slot 0 7 rfl (by kernel_rfl)) rfl
      · exact owe_move rfl (wants_all rfl) (Or.inl rfl) (opnd_slot 1 1 rfl (by kernel_rfl)) rfl
      · exact owe_bin rfl (wants_all rfl) rfl (opnd_op 0 31 (by kernel_rfl) rfl) (opnd_op 1 32 (by kernel_rfl) rfl) rfl (fun ρ w h1 h2 => by exact run_lss_int_t ρ _ _ _ w _ _ (by omega) h1 h2)
    intro B8 a8 W8 S8
    replace S8 : Sta w 40 [(2, (.box 24 (Zx s p n c xs))), (4, (.box 24 (Is (.agg #[.bool false, .slice none 0 0])))), (6, (.box 24 ((ZN (A ^ k)) w.heap.size)))] [(33, (Is (.bool true))), (7, (Is (.int .i64 k))), (1, (Is (.int .i64 N)))] B8 a8 W8 := S8
    refine wp_cond_true (S8.bool 0 33 rfl) ?_
    refine wp_skip ?_
    refine thenN ?_
    refine wp_seq ?_
    refine wp_block ?_
    refine wp_stmt [.val ((ZN (A ^ k)) w.heap.size),
      .val (Zx s p n c xs),
      .val ((ZN (A ^ (k + 1))) w.heap.size),
      .put (.inl 6) (.box 24 ((ZN (A ^ (k + 1))) w.heap.size))] [.inr 0, .inr 1, .inr 2] [.inr 0, .inr 1, .inr 2] follows S8 rfl (by kernel_rfl) ?_ ?_
    · refine ⟨⟨⟨⟨trivial, ?_⟩, ?_⟩, ?_⟩, ?_⟩
      · exact owe_load rfl (wants_all rfl) rfl (k := 2) rfl (by kernel_rfl) (loads_of strct_int shp_zn) rfl
      · exact owe_load rfl (wants_all rfl) rfl (k := 0) rfl (by kernel_rfl) (loads_of strct_int shp_zx) rfl
      · exact owe_call2 rfl (wants_all rfl) rfl (opnd_op 0 36 (by kernel_rfl) rfl) (opnd_op 1 37 (by kernel_rfl) rfl) (fresh_zn _) rfl (fun args w => by go_simp) (fun w u0 u1 h0 h1 => Gives.cast ((fun w u v h1 h2 => g_rmul (by omega) w u v ((zn_zv dk) _ _ h1) ((zx_zv' eA (Nat.le_refl _)) _ _ h2)) w u0 u1 h0 h1) (by rw [Int.pow_succ]))
      · exact owe_set rfl (wants_all rfl) rfl (k := 2) rfl (by kernel_rfl) (opnd_op 2 38 (by kernel_rfl) rfl) (stores_of strct_int shp_zn shp_zn) rfl
    intro B9 a9 W9 S9
    replace S9 : Sta w 40 [(2, (.box 24 (Zx s p n c xs))), (4, (.box 24 (Is (.agg #[.bool false, .slice none 0 0])))), (6, (.box 24 ((ZN (A ^ (k + 1))) w.heap.size)))] [(33, (Is (.bool true))), (7, (Is (.int .i64 k))), (1, (Is (.int .i64 N)))] B9 a9 W9 := S9
    refine inBlkN ?_
    refine thenN ?_
    refine wp_stmt [.val (Is (.int .i64 k)),
      .val (Is (.int .i64 (k + 1 : Nat))),
      .val (Is (.int .i64 (k + 1 : Nat)))] [.inr 0, .inr 1, .inr 2] [.inl 2, .inr 0, .inr 2] follows S9 rfl (by kernel_rfl) ?_ ?_
    · refine ⟨⟨⟨trivial, ?_⟩, ?_⟩, ?_⟩
      · exact owe_move rfl (wants_all rfl) (Or.inl rfl) (opnd_slot 1 7 rfl (by kernel_rfl)) rfl
      · exact owe_bin rfl (wants_all rfl) rfl (opnd_op 0 34 (by kernel_rfl) rfl) (opnd_const _) rfl (fun ρ w h1 h2 => by exact run_add_int ρ _ _ _ w _ _ _ ⟨by omega, by omega, by omega⟩ h1 h2)
      · exact owe_move rfl (wants_all rfl) (Or.inr rfl) (opnd_op 1 35 (by kernel_rfl) rfl) rfl
    intro B10 a10 W10 S10
    replace S10 : Sta w 40 [(2, (.box 24 (Zx s p n c xs))), (4, (.box 24 (Is (.agg #[.bool false, .slice none 0 0])))), (6, (.box 24 ((ZN (A ^ (k + 1))) w.heap.size)))] [(7, (Is (.int .i64 (k + 1 : Nat)))), (33, (Is (.bool true))), (1, (Is (.int .i64 N)))] B10 a10 W10 := S10
    refine thenN ?_
    exact ⟨k + 1, ⟨by omega, B10, S10.sub [0, 1, 2] [0, 2]⟩, by omega⟩
  · have ek : N = k := by omega
    rw [ek]
    refine wp_seq ?_
    refine wp_stmt_seq [.val (Is (.int .i64 k)),
      .val (Is (.int .i64 N)),
      .val (Is (.bool false))] [.inr 0, .inr 1, .inr 2] [.inl 2, .inr 0, .inr 1] follows S7 rfl (by kernel_rfl) ?_ ?_
    · refine ⟨⟨⟨trivial, ?_⟩, ?_⟩, ?_⟩
      · exact owe_move rfl (wants_all rfl) (Or.inl rfl) (opnd_slot 0 7 rfl (by kernel_rfl)) rfl
      · exact owe_move rfl (wants_all rfl) (Or.inl rfl) (opnd_slot 1 1 rfl (by kernel_rfl)) rfl
      · exact owe_bin rfl (wants_all rfl) rfl (opnd_op 0 31 (by kernel_rfl) rfl) (opnd_op 1 32 (by kernel_rfl) rfl) rfl (fun ρ w h1 h2 => by exact run_lss_int_f ρ _ _ _ w _ _ (by omega) h1 h2)
    intro B8 a8 W8 S8
    replace S8 : Sta w 40 [(2, (.box 24 (Zx s p n c xs))), (4, (.box 24 (Is (.agg #[.bool false, .slice none 0 0])))), (6, (.box 24 ((ZN (A ^ k)) w.heap.size)))] [(33, (Is (.bool false))), (7, (Is (.int .i64 k))), (1, (Is (.int .i64 N)))] B8 a8 W8 := S8
    refine wp_cond_false (S8.bool 0 33 rfl) ?_
    refine wp_exit ?_
    refine thenX ?_
    refine thenX ?_
    refine inBlkE ?_
    refine thenN ?_
    refine wp_stmt_seq [.val ((ZN (A ^ k)) w.heap.size),
      .put (.inl 4) (.box 24 ((ZN (A ^ k)) w.heap.size)),
      .val (Is (.int .i64 0))] [.inr 0, .inr 1, .inr 2] [.inl 2, .inr 0, .inr 1, .inr 2] follows S8 rfl (by kernel_rfl) ?_ ?_
    · refine ⟨⟨⟨trivial, ?_⟩, ?_⟩, ?_⟩
      · exact owe_load rfl (wants_all rfl) rfl (k := 2) rfl (by kernel_rfl) (loads_of strct_int shp_zn) rfl
      · exact owe_set rfl (wants_all rfl) rfl (k := 1) rfl (by kernel_rfl) (opnd_op 0 39 (by kernel_rfl) rfl) (stores_of strct_int shp_z0 shp_zn) rfl
      · exact owe_move rfl (wants_all rfl) (Or.inr rfl) (opnd_const _) rfl
    intro B9 a9 W9 S9
    replace S9 : Sta w 40 [(2, (.box 24 (Zx s p n c xs))), (4, (.box 24 ((ZN (A ^ k)) w.heap.size))), (6, (.box 24 ((ZN (A ^ k)) w.heap.size)))] [(5, (Is (.int .i64 0))), (33, (Is (.bool false))), (7, (Is (.int .i64 k))), (1, (Is (.int .i64 N)))] B9 a9 W9 := S9
    refine wp_ret ?_
    exact end_two S9 rfl (res_cell S9 1 4 rfl strct_int shp_zn) (res_tmp S9 0 5 rfl)

set_option maxHeartbeats 400000 in
theorem rpw_w4 (w : World) (s : Bool) (p : Option Addr) (n c : Nat) (xs : List Nat) (N : Nat) (h : Sl w p n c xs) (A : Int) (eA : sg s (val xs) = A) (hn : n ≤ 1048576) (hN : N ≤ 65536) (hs : ((Go.bitLen A.natAbs : Nat) : Int) ≤ 0) (hA : A.sign = 0) (hN0 : (N : Int) ≤ 0) :
    Calls Try.prog 7 #[.agg #[.bool s, .slice p n c], .int .i64 N] w (Gives (TWO (ZN (A ^ N)) (IS (.int .i64 0))) w) := by
  have dA : (digs A.natAbs).length ≤ n := by rw [← eA]; exact sg_dl h
  refine calls_sta (sl := [(0, (Zx s p n c xs)), (1, (Is (.int .i64 N)))]) Try.func7 rfl Try.ntmps7 (by simp) (args_cons rfl (zx_has h) (args_cons rfl (is_has _) args_nil)) ?_
  intro a0 S0
  refine wp_stmt_seq [.new (.box 24 (Zx s p n c xs)),
      .new (.box 24 (Is (.agg #[.bool false, .slice none 0 0]))),
      .val (Is (.int .i64 0))] [.inl 0, .inl 1] [.inl 2, .inr 1] follows S0 rfl (by kernel_rfl) ?_ ?_
  · refine ⟨⟨⟨trivial, ?_⟩, ?_⟩, ?_⟩
    · exact owe_box rfl (wants_all rfl) rfl (opnd_slot 0 0 rfl (by kernel_rfl)) rfl (fun ρ w h => box_int shp_zx ρ _ _ w h)
    · exact owe_new rfl (wants_all rfl) rfl rfl (fun ρ w => alloc_int ρ _ w)
    · exact owe_move rfl (wants_all rfl) (Or.inr rfl) (opnd_const _) rfl
  intro B1 a1 W1 S1
  replace S1 : Sta w 40 [(2, (.box 24 (Zx s p n c xs))), (4, (.box 24 (Is (.agg #[.bool false, .slice none 0 0]))))] [(5, (Is (.int .i64 0))), (1, (Is (.int .i64 N)))] B1 a1 W1 := S1
  refine wp_seq ?_
  refine wp_stmt_seq [.val (Is (.int .i64 N)),
      .val (Is (.bool false))] [.inr 0, .inr 1] [.inl 1, .inr 0, .inr 1] follows S1 rfl (by kernel_rfl) ?_ ?_
  · refine ⟨⟨trivial, ?_⟩, ?_⟩
    · exact owe_move rfl (wants_all rfl) (Or.inl rfl) (opnd_slot 1 1 rfl (by kernel_rfl)) rfl
    · exact owe_bin rfl (wants_all rfl) rfl (opnd_op 0 8 (by kernel_rfl) rfl) (opnd_const _) rfl (fun ρ w h1 h2 => by exact run_lss_int_f ρ _ _ _ w _ _ (by omega) h1 h2)
  intro B2 a2 W2 S2
  replace S2 : Sta w 40 [(2, (.box 24 (Zx s p n c xs))), (4, (.box 24 (Is (.agg #[.bool false, .slice none 0 0]))))] [(9, (Is (.bool false))), (5, (Is (.int .i64 0))), (1, (Is (.int .i64 N)))] B2 a2 W2 := S2
  refine wp_cond_false (S2.bool 0 9 rfl) ?_
  refine wp_skip ?_
  refine thenN ?_
  refine wp_seq ?_
  refine wp_stmt_seq [.val (Zx s p n c xs),
      .val (Is (.int .i64 (Go.bitLen (A).natAbs : Nat))),
      .val (Is (.bool false)),
      .val (Is (.bool false)),
      .off,
      .off,
      .off,
      .off,
      .off,
      .val (Is (.bool false))] [.inr 0, .inr 1] [.inl 9, .inr 0, .inr 1, .inr 2] follows S2 rfl (by kernel_rfl) ?_ ?_
  · refine ⟨⟨⟨⟨⟨⟨⟨⟨⟨⟨trivial, ?_⟩, ?_⟩, ?_⟩, ?_⟩, ?_⟩, ?_⟩, ?_⟩, ?_⟩, ?_⟩, ?_⟩
    · exact owe_load rfl (wants_all rfl) rfl (k := 0) rfl (by kernel_rfl) (loads_of strct_int shp_zx) rfl
    · exact owe_call1 rfl (wants_all rfl) rfl (opnd_op 0 11 (by kernel_rfl) rfl) (fresh_is _) rfl (fun args w => by go_simp) (fun w u h1 => g_rbits (by omega) w u ((zx_zv' eA (Nat.le_refl _)) _ _ h1))
    · exact owe_bin rfl (wants_all rfl) rfl (opnd_op 1 12 (by kernel_rfl) rfl) (opnd_const _) rfl (fun ρ w h1 h2 => by exact run_gtr_int_f ρ _ _ _ w _ _ hs h1 h2)
    · exact owe_move rfl (wants_all rfl) (Or.inl rfl) (opnd_op 2 13 (by kernel_rfl) rfl) rfl
    · exact owe_off 3 14 rfl rfl rfl (by kernel_rfl) rfl (by decide)
    · exact owe_off 3 14 rfl rfl rfl (by kernel_rfl) rfl (by decide)
    · exact owe_off 3 14 rfl rfl rfl (by kernel_rfl) rfl (by decide)
    · exact owe_off 3 14 rfl rfl rfl (by kernel_rfl) rfl (by decide)
    · exact owe_off 3 14 rfl rfl rfl (by kernel_rfl) rfl (by decide)
    · exact owe_pick rfl (wants_all rfl) rfl (opnd_op 3 14 (by kernel_rfl) rfl) (fun h => nomatch h) (fun _ => (opnd_const _)) rfl
  intro B3 a3 W3 S3
  replace S3 : Sta w 40 [(2, (.box 24 (Zx s p n c xs))), (4, (.box 24 (Is (.agg #[.bool false, .slice none 0 0]))))] [(20, (Is (.bool false))), (9, (Is (.bool false))), (5, (Is (.int .i64 0))), (1, (Is (.int .i64 N)))] B3 a3 W3 := S3
  refine wp_cond_false (S3.bool 0 20 rfl) ?_
  refine wp_skip ?_
  refine thenN ?_
  refine wp_seq ?_
  refine wp_stmt_seq [.val (Zx s p n c xs),
      .val (Is (.int .i64 (A).sign)),
      .val (Is (.bool true)),
      .val (Is (.bool true)),
      .val (Is (.int .i64 N)),
      .val (Is (.bool false)),
      .val (Is (.bool false))] [.inr 0, .inr 1] [.inl 6, .inr 0, .inr 1, .inr 2, .inr 3] follows S3 rfl (by kernel_rfl) ?_ ?_
  · refine ⟨⟨⟨⟨⟨⟨⟨trivial, ?_⟩, ?_⟩, ?_⟩, ?_⟩, ?_⟩, ?_⟩, ?_⟩
    · exact owe_load rfl (wants_all rfl) rfl (k := 0) rfl (by kernel_rfl) (loads_of strct_int shp_zx) rfl
    · exact owe_call1 rfl (wants_all rfl) rfl (opnd_op 0 22 (by kernel_rfl) rfl) (fresh_is _) rfl (fun args w => by go_simp) (fun w u h1 => g_rsign (by omega) w u ((zx_zv' eA (Nat.le_refl _)) _ _ h1))
    · exact owe_bin rfl (wants_all rfl) rfl (opnd_op 1 23 (by kernel_rfl) rfl) (opnd_const _) rfl (fun ρ w h1 h2 => by exact run_eql_int_t ρ _ _ _ w _ _ hA h1 h2)
    · exact owe_move rfl (wants_all rfl) (Or.inl rfl) (opnd_op 2 24 (by kernel_rfl) rfl) rfl
    · exact owe_move rfl (wants_if 3 25 rfl (by kernel_rfl) rfl) (Or.inl rfl) (opnd_slot 3 1 rfl (by kernel_rfl)) rfl
    · exact owe_bin rfl (wants_if 3 25 rfl (by kernel_rfl) rfl) rfl (opnd_op 4 26 (by kernel_rfl) rfl) (opnd_const _) rfl (fun ρ w h1 h2 => by exact run_gtr_int_f ρ _ _ _ w _ _ hN0 h1 h2)
    · exact owe_pick rfl (wants_all rfl) rfl (opnd_op 3 25 (by kernel_rfl) rfl) (fun _ => (opnd_op 5 27 (by kernel_rfl) rfl)) (fun h => nomatch h) rfl
  intro B4 a4 W4 S4
  replace S4 : Sta w 40 [(2, (.box 24 (Zx s p n c xs))), (4, (.box 24 (Is (.agg #[.bool false, .slice none 0 0]))))] [(28, (Is (.bool false))), (20, (Is (.bool false))), (9, (Is (.bool false))), (5, (Is (.int .i64 0))), (1, (Is (.int .i64 N)))] B4 a4 W4 := S4
  refine wp_cond_false (S4.bool 0 28 rfl) ?_
  refine wp_skip ?_
  refine thenN ?_
  refine wp_stmt_seq [.val ((ZN (A ^ 0)) w.heap.size),
      .new (.box 24 (Is (.agg #[.bool false, .slice none 0 0]))),
      .put (.inr 1) (.box 24 ((ZN (A ^ 0)) w.heap.size))] [.inr 0, .inr 1, .inl 1] [.inr 0, .inr 1, .inr 2, .inr 3, .inr 4] follows S4 rfl (by kernel_rfl) ?_ ?_
  · refine ⟨⟨⟨trivial, ?_⟩, ?_⟩, ?_⟩
    · exact owe_call1 rfl (wants_all rfl) rfl (opnd_const _) (fresh_zn _) rfl (fun args w => by go_simp) (fun w u0 h0 => Gives.cast ((g_rof 1 (by omega) (by omega)) w u0 h0) (by rw [Int.pow_zero]))
    · exact owe_new rfl (wants_all rfl) rfl rfl (fun ρ w => alloc_int ρ _ w)
    · exact owe_put 1 rfl (wants_all rfl) rfl (by kernel_rfl) rfl (opnd_op 0 30 (by kernel_rfl) rfl) (stores_of strct_int shp_z0 shp_zn) rfl
  intro B5 a5 W5 S5
  replace S5 : Sta w 40 [(2, (.box 24 (Zx s p n c xs))), (4, (.box 24 (Is (.agg #[.bool false, .slice none 0 0])))), (6, (.box 24 ((ZN (A ^ 0)) w.heap.size)))] [(28, (Is (.bool false))), (20, (Is (.bool false))), (9, (Is (.bool false))), (5, (Is (.int .i64 0))), (1, (Is (.int .i64 N)))] B5 a5 W5 := S5
  refine wp_seq ?_
  refine wp_stmt_seq [.val (Is (.int .i64 0))] [.inr 0, .inr 1, .inr 2] [.inl 0, .inr 0, .inr 1, .inr 2, .inr 3, .inr 4] follows S5 rfl (by kernel_rfl) ?_ ?_
  · refine ⟨trivial, ?_⟩
    · exact owe_move rfl (wants_all rfl) (Or.inr rfl) (opnd_const _) rfl
  intro B6 a6 W6 S6
  replace S6 : Sta w 40 [(2, (.box 24 (Zx s p n c xs))), (4, (.box 24 (Is (.agg #[.bool false, .slice none 0 0])))), (6, (.box 24 ((ZN (A ^ 0)) w.heap.size)))] [(7, (Is (.int .i64 0))), (28, (Is (.bool false))), (20, (Is (.bool false))), (9, (Is (.bool false))), (5, (Is (.int .i64 0))), (1, (Is (.int .i64 N)))] B6 a6 W6 := S6
  refine wp_block ?_
  refine wp_loop_ghost (fun (k : Nat) a W => (k ≤ N) ∧ ∃ B, Sta w 40 [(2, (.box 24 (Zx s p n c xs))), (4, (.box 24 (Is (.agg #[.bool false, .slice none 0 0])))), (6, (.box 24 ((ZN (A ^ k)) w.heap.size)))] [(7, (Is (.int .i64 k))), (1, (Is (.int .i64 N)))] B a W) (fun (k : Nat) => N - k) ?_ 0 ⟨Nat.zero_le _, B6, S6.sub [0, 1, 2] [0, 5]⟩
  rintro k a7 W7 ⟨hcond, B7, S7⟩
  by_cases hlt : k < N
  · have dk := ipow_len (N := k) dA (by omega) (by omega)
    refine wp_seq ?_
    refine wp_stmt_seq [.val (Is (.int .i64 k)),
      .val (Is (.int .i64 N)),
      .val (Is (.bool true))] [.inr 0, .inr 1, .inr 2] [.inl 2, .inr 0, .inr 1] follows S7 rfl (by kernel_rfl) ?_ ?_
    · refine ⟨⟨⟨trivial, ?_⟩, ?_⟩, ?_⟩
      · exact owe_move rfl (wants_all rfl) (Or.inl rfl) (opnd_slot 0 7 rfl (by kernel_rfl)) rfl
      · exact owe_move rfl (wants_all rfl) (Or.inl rfl) (opnd_slot 1 1 rfl (by kernel_rfl)) rfl
      · exact owe_bin rfl (wants_all rfl) rfl (opnd_op 0 31 (by kernel_rfl) rfl) (opnd_op 1 32 (by kernel_rfl) rfl) rfl (fun ρ w h1 h2 => by exact run_lss_int_t ρ _ _ _ w _ _ (by omega) h1 h2)
    intro B8 a8 W8 S8
    replace S8 : Sta w 40 [(2, (.box 24 (Zx s p n c xs))), (4, (.box 24 (Is (.agg #[.bool false, .slice none 0 0])))), (6, (.box 24 ((ZN (A ^ k)) w.heap.size)))] [(33, (Is (.bool true))), (7, (Is (.int .i64 k))), (1, (Is (.int .i64 N)))] B8 a8 W8 := S8
    refine wp_cond_true (S8.bool 0 33 rfl) ?_
    refine wp_skip ?_
    refine thenN ?_
    refine wp_seq ?_
    refine wp_block ?_
    refine wp_stmt [.val ((ZN (A ^ k)) w.heap.size),
      .val (Zx s p n c xs),
      .val ((ZN (A ^ (k + 1))) w.heap.size),
      .put (.inl 6) (.box 24 ((ZN (A ^ (k + 1))) w.heap.size))] [.inr 0, .inr 1, .inr 2] [.inr 0, .inr 1, .inr 2] follows S8 rfl (by kernel_rfl) ?_ ?_
    · refine ⟨⟨⟨⟨trivial, ?_⟩, ?_⟩, ?_⟩, ?_⟩
      · exact owe_load rfl (wants_all rfl) rfl (k := 2) rfl (by kernel_rfl) (loads_of strct_int shp_zn) rfl
      · exact owe_load rfl (wants_all rfl) rfl (k := 0) rfl (by kernel_rfl) (loads_of strct_int shp_zx) rfl
      · exact owe_call2 rfl (wants_all rfl) rfl (opnd_op 0 36 (by kernel_rfl) rfl) (opnd_op 1 37 (by kernel_rfl) rfl) (fresh_zn _) rfl (fun args w => by go_simp) (fun w u0 u1 h0 h1 => Gives.cast ((fun w u v h1 h2 => g_rmul (by omega) w u v ((zn_zv dk) _ _ h1) ((zx_zv' eA (Nat.le_refl _)) _ _ h2)) w u0 u1 h0 h1) (by rw [Int.pow_succ]))
      · exact owe_set rfl (wants_all rfl) rfl (k := 2) rfl (by kernel_rfl) (opnd_op 2 38 (by kernel_rfl) rfl) (stores_of strct_int shp_zn shp_zn) rfl
    intro B9 a9 W9 S9
    replace S9 : Sta w 40 [(2, (.box 24 (Zx s p n c xs))), (4, (.box 24 (Is (.agg #[.bool false, .slice none 0 0])))), (6, (.box 24 ((ZN (A ^ (k + 1))) w.heap.size)))] [(33, (Is (.bool true))), (7, (Is (.int .i64 k))), (1, (Is (.int .i64 N)))] B9 a9 W9 := S9
    refine inBlkN ?_
    refine thenN ?_
    refine wp_stmt [.val (Is (.int .i64 k)),
      .val (Is (.int .i64 (k + 1 : Nat))),
      .val (Is (.int .i64 (k + 1 : Nat)))] [.inr 0, .inr 1, .inr 2] [.inl 2, .inr 0, .inr 2] follows S9 rfl (by kernel_rfl) ?_ ?_
    · refine ⟨⟨⟨trivial, ?_⟩, ?_⟩, ?_⟩
      · exact owe_move rfl (wants_all rfl) (Or.inl rfl) (opnd_slot 1 7 rfl (by kernel_rfl)) rfl
      · exact owe_bin rfl (wants_all rfl) rfl (opnd_op 0 34 (by kernel_rfl) rfl) (opnd_const _) rfl (fun ρ w h1 h2 => by exact run_add_int ρ _ _ _ w _ _ _ ⟨by omega, by omega, by omega⟩ h1 h2)
      · exact owe_move rfl (wants_all rfl) (Or.inr rfl) (opnd_op 1 35 (by kernel_rfl) rfl) rfl
    intro B10 a10 W10 S10
    replace S10 : Sta w 40 [(2, (.box 24 (Zx s p n c xs))), (4, (.box 24 (Is (.agg #[.bool false, .slice none 0 0])))), (6, (.box 24 ((ZN (A ^ (k + 1))) w.heap.size)))] [(7, (Is (.int .i64 (k + 1 : Nat)))), (33, (Is (.bool true))), (1, (Is (.int .i64 N)))] B10 a10 W10 := S10
    refine thenN ?_
    exact ⟨k + 1, ⟨by omega, B10, S10.sub [0, 1, 2] [0, 2]⟩, by omega⟩
  · have ek : N = k := by omega
    rw [ek]
    refine wp_seq ?_
    refine wp_stmt_seq [.val (Is (.int .i64 k)),
      .val (Is (.int .i64 N)),
      .val (Is (.bool false))] [.inr 0, .inr 1, .inr 2] [.inl 2, .inr 0, .inr 1] follows S7 rfl (by kernel_rfl) ?_ ?_
    · refine ⟨⟨⟨trivial, ?_⟩, ?_⟩, ?_⟩
      · exact owe_move rfl (wants_all rfl) (Or.inl rfl) (opnd_slot 0 7 rfl (by kernel_rfl)) rfl
      · exact owe_move rfl (wants_all rfl) (Or.inl rfl) (opnd_slot 1 1 rfl (by kernel_rfl)) rfl
      · exact owe_bin rfl (wants_all rfl) rfl (opnd_op 0 31 (by kernel_rfl) rfl) (opnd_op 1 32 (by kernel_rfl) rfl) rfl (fun ρ w h1 h2 => by exact run_lss_int_f ρ _ _ _ w _ _ (by omega) h1 h2)
    intro B8 a8 W8 S8
    replace S8 : Sta w 40 [(2, (.box 24 (Zx s p n c xs))), (4, (.box 24 (Is (.agg #[.bool false, .slice none 0 0])))), (6, (.box 24 ((ZN (A ^ k)) w.heap.size)))] [(33, (Is (.bool false))), (7, (Is (.int .i64 k))), (1, (Is (.int .i64 N)))] B8 a8 W8 := S8
    refine wp_cond_false (S8.bool 0 33 rfl) ?_
    refine wp_exit ?_
    refine thenX ?_
    refine thenX ?_
    refine inBlkE ?_
    refine thenN ?_
    refine wp_stmt_seq [.val ((ZN (A ^ k)) w.heap.size),
      .put (.inl 4) (.box 24 ((ZN (A ^ k)) w.heap.size)),
      .val (Is (.int .i64 0))] [.inr 0, .inr 1, .inr 2] [.inl 2, .inr 0, .inr 1, .inr 2] follows S8 rfl (by kernel_rfl) ?_ ?_
    · refine ⟨⟨⟨trivial, ?_⟩, ?_⟩, ?_⟩
      · exact owe_load rfl (wants_all rfl) rfl (k := 2) rfl (by kernel_rfl) (loads_of strct_int shp_zn) rfl
      · exact owe_set rfl (wants_all rfl) rfl (k := 1) rfl (by kernel_rfl) (opnd_op 0 39 (by kernel_rfl) rfl) (stores_of strct_int shp_z0 shp_zn) rfl
      · exact owe_move rfl (wants_all rfl) (Or.inr rfl) (opnd_const _) rfl
    intro B9 a9 W9 S9
    replace S9 : Sta w 40 [(2, (.box 24 (Zx s p n c xs))), (4, (.box 24 ((ZN (A ^ k)) w.heap.size))), (6, (.box 24 ((ZN (A ^ k)) w.heap.size)))] [(5, (Is (.int .i64 0))), (33, (Is (.bool false))), (7, (Is (.int .i64 k))), (1, (Is (.int .i64 N)))] B9 a9 W9 := S9
    refine wp_ret ?_
    exact end_two S9 rfl (res_cell S9 1 4 rfl strct_int shp_zn) (res_tmp S9 0 5 rfl)


/-- What Power says: its error, its number. -/
def pe (A z : Int) : Int := if z < 0 then 1 else if 0 < ((Go.bitLen A.natAbs : Nat) : Int) ∧ 65536 / ((Go.bitLen A.natAbs : Nat) : Int) < z then 2 else 0
def pw (A z : Int) : Int := if pe A z = 0 then A ^ z.toNat else 0
/-- What Shift says. -/
def se (z : Int) : Int := if 65536 < z ∨ z < -65536 then 2 else 0
def sw (A z : Int) : Int := if 65536 < z ∨ z < -65536 then 0 else if 0 ≤ z then A * 2 ^ z.toNat else fl A (2 ^ (-z).toNat)
theorem sg_pow (k x : Nat) : sg false (x ^ k) = (sg false x) ^ k := by simp [sg]
theorem neg_pow_even (x : Int) (j : Nat) : (-x) ^ (2 * j) = x ^ (2 * j) := by
  rw [Int.pow_mul, Int.pow_mul]
  congr 1
  rw [Int.pow_succ, Int.pow_succ, Int.pow_zero, Int.pow_succ, Int.pow_succ, Int.pow_zero]
  simp [Int.neg_mul, Int.mul_neg]
theorem sg_pow_even {k : Nat} (x : Nat) (h : k % 2 = 0) : sg false (x ^ k) = (sg true x) ^ k := by
  obtain ⟨j, rfl⟩ : ∃ j, k = 2 * j := ⟨k / 2, by omega⟩
  simp only [sg, Bool.false_eq_true, if_false, if_true]
  rw [neg_pow_even]
  simp
theorem sg_pow_odd {k : Nat} (x : Nat) (h : k % 2 = 1) : sg true (x ^ k) = (sg true x) ^ k := by
  obtain ⟨j, rfl⟩ : ∃ j, k = 2 * j + 1 := ⟨k / 2, by omega⟩
  simp only [sg, if_true]
  rw [Int.pow_succ, neg_pow_even, Int.mul_neg]
  simp [Nat.pow_succ]
theorem bl_abs0 {A : Int} (h : ((Go.bitLen A.natAbs : Nat) : Int) ≤ 0) : A = 0 := by
  have h1 : Go.bitLen A.natAbs ≤ 1 := by omega
  have h2 := bl_le_one.1 h1
  rcases (by omega : A.natAbs = 0 ∨ A.natAbs = 1) with e | e
  · omega
  · rw [e] at h
    exact absurd h (by decide)
theorem bl_abs1 {A : Int} (h : (0 : Int) < ((Go.bitLen A.natAbs : Nat) : Int)) : A ≠ 0 := by
  rintro rfl
  exact absurd h (by decide)
theorem g_zpow {A z : Int} {k : Nat} (hk : k ≤ 1048576) (h0 : -9223372036854775808 ≤ z) (h9 : z ≤ 9223372036854775807) : ∀ w u v, Zv A k u w → Is (.int .i64 z) v w → Calls Try.prog 5 #[u, v] w (Gives (TWO (ZN (pw A z)) (IS (.int .i64 (pe A z)))) w) := by
  rintro w u v ⟨s, p, n, c, xs, rfl, h, rfl, hn⟩ e
  obtain rfl : v = _ := e
  by_cases hz : z < 0
  · have e1 : pe (sg s (val xs)) z = 1 := by unfold pe; rw [if_pos hz]
    have e2 : pw (sg s (val xs)) z = 0 := by unfold pw; rw [e1]; exact if_neg (by decide)
    rw [e1, e2]
    exact Gives.two (zpw_w0 w s p n c xs z h _ rfl (by omega) h0 h9 hz) zero_zn
  · by_cases hq : 0 < ((Go.bitLen (sg s (val xs)).natAbs : Nat) : Int) ∧ 65536 / ((Go.bitLen (sg s (val xs)).natAbs : Nat) : Int) < z
    · have e1 : pe (sg s (val xs)) z = 2 := by unfold pe; rw [if_neg hz, if_pos hq]
      have e2 : pw (sg s (val xs)) z = 0 := by unfold pw; rw [e1]; exact if_neg (by decide)
      rw [e1, e2]
      exact Gives.two (zpw_w1 w s p n c xs z h _ rfl (by omega) h0 h9 (by omega) hq.1 hq.2) zero_zn
    · have e1 : pe (sg s (val xs)) z = 0 := by unfold pe; rw [if_neg hz, if_neg hq]
      have e2 : pw (sg s (val xs)) z = (sg s (val xs)) ^ z.toNat := by unfold pw; rw [e1]; exact if_pos rfl
      rw [e1, e2]
      have hz' : 0 ≤ z := by omega
      by_cases hs : ((Go.bitLen (sg s (val xs)).natAbs : Nat) : Int) ≤ 0
      · have hb : z = 0 ∨ Go.bitLen (val xs) ≤ 1 ∨ z ≤ 1048576 / ((Go.bitLen (val xs) : Nat) : Int) := Or.inr (Or.inl (by rw [sg_abs] at hs; omega))
        cases s with
        | false => rw [← sg_pow]; exact zpw_v00 w p n c xs z h _ rfl (by omega) h0 h9 hz' hs hb
        | true =>
          by_cases ho : z % 2 = 1
          · rw [← sg_pow_odd _ (by omega)]; exact zpw_v01 w p n c xs z h _ rfl (by omega) h0 h9 hz' hs ho hb
          · rw [← sg_pow_even _ (by omega)]; exact zpw_v02 w p n c xs z h _ rfl (by omega) h0 h9 hz' hs ho hb
      · have hs' : 0 < ((Go.bitLen (sg s (val xs)).natAbs : Nat) : Int) := by omega
        have hq' : z ≤ 65536 / ((Go.bitLen (sg s (val xs)).natAbs : Nat) : Int) := by
          apply Classical.byContradiction
          intro hc
          exact hq ⟨hs', by omega⟩
        have hb : z = 0 ∨ Go.bitLen (val xs) ≤ 1 ∨ z ≤ 1048576 / ((Go.bitLen (val xs) : Nat) : Int) := by
          refine Or.inr (Or.inr ?_)
          rw [sg_abs] at hq' hs'
          refine Int.le_trans hq' (Int.ediv_le_ediv hs' (by decide))
        cases s with
        | false => rw [← sg_pow]; exact zpw_v10 w p n c xs z h _ rfl (by omega) h0 h9 hz' hs' hq' hb
        | true =>
          by_cases ho : z % 2 = 1
          · rw [← sg_pow_odd _ (by omega)]; exact zpw_v11 w p n c xs z h _ rfl (by omega) h0 h9 hz' hs' hq' ho hb
          · rw [← sg_pow_even _ (by omega)]; exact zpw_v12 w p n c xs z h _ rfl (by omega) h0 h9 hz' hs' hq' ho hb
theorem g_rpow {A z : Int} {k : Nat} (hk : k ≤ 1048576) (h0 : -9223372036854775808 ≤ z) (h9 : z ≤ 9223372036854775807) : ∀ w u v, Zv A k u w → Is (.int .i64 z) v w → Calls Try.prog 7 #[u, v] w (Gives (TWO (ZN (pw A z)) (IS (.int .i64 (pe A z)))) w) := by
  rintro w u v ⟨s, p, n, c, xs, rfl, h, eA, hn⟩ e
  obtain rfl : v = _ := e
  by_cases hz : z < 0
  · have e1 : pe A z = 1 := by unfold pe; rw [if_pos hz]
    have e2 : pw A z = 0 := by unfold pw; rw [e1]; exact if_neg (by decide)
    rw [e1, e2]
    exact Gives.two (rpw_w0 w s p n c xs z h _ eA (by omega) h0 h9 hz) zero_zn
  · by_cases hq : 0 < ((Go.bitLen A.natAbs : Nat) : Int) ∧ 65536 / ((Go.bitLen A.natAbs : Nat) : Int) < z
    · have e1 : pe A z = 2 := by unfold pe; rw [if_neg hz, if_pos hq]
      have e2 : pw A z = 0 := by unfold pw; rw [e1]; exact if_neg (by decide)
      rw [e1, e2]
      exact Gives.two (rpw_w1 w s p n c xs z h _ eA (by omega) h0 h9 (by omega) hq.1 hq.2) zero_zn
    · have e1 : pe A z = 0 := by unfold pe; rw [if_neg hz, if_neg hq]
      have e2 : pw A z = A ^ z.toNat := by unfold pw; rw [e1]; exact if_pos rfl
      rw [e1, e2]
      obtain ⟨N, rfl⟩ : ∃ N : Nat, z = (N : Int) := ⟨z.toNat, by omega⟩
      rw [Int.toNat_natCast]
      by_cases hs : ((Go.bitLen A.natAbs : Nat) : Int) ≤ 0
      · have hA := bl_abs0 hs
        by_cases hN : N = 0
        · exact rpw_w4 w s p n c xs N h A eA (by omega) (by omega) hs (by rw [hA]; rfl) (by omega)
        · have e3 : A ^ N = 0 := by rw [hA]; exact Int.zero_pow (by omega)
          rw [e3]
          exact rpw_w2 w s p n c xs N h A eA (by omega) h0 h9 (by omega) hs (by rw [hA]; rfl)
      · have hs' : 0 < ((Go.bitLen A.natAbs : Nat) : Int) := by omega
        have hq' : (N : Int) ≤ 65536 / ((Go.bitLen A.natAbs : Nat) : Int) := by
          apply Classical.byContradiction
          intro hc
          exact hq ⟨hs', by omega⟩
        have h5 : (65536 : Int) / ((Go.bitLen A.natAbs : Nat) : Int) ≤ 65536 := Int.ediv_le_self _ (by decide)
        exact rpw_w3 w s p n c xs N h A eA (by omega) (by omega) hs' hq' (fun e => bl_abs1 hs' (Int.sign_eq_zero_iff_zero.1 e))
theorem fl_two_neg {x : Nat} (hx : 1 ≤ x) (K : Nat) : sg true ((x - 1) / 2 ^ K + 1) = fl (sg true x) (2 ^ K) := by
  have hp : (0 : Int) < 2 ^ K := Int.pow_pos (by decide)
  unfold fl
  rw [if_pos hp]
  obtain ⟨y, rfl⟩ : ∃ y, x = y + 1 := ⟨x - 1, by omega⟩
  simp only [sg, if_true, Nat.add_sub_cancel]
  rw [show (-((y + 1 : Nat) : Int)) = Int.negSucc y from rfl, Int.negSucc_ediv _ hp]
  simp
  rfl
theorem fl_two_pos (x K : Nat) : sg false (x / 2 ^ K) = fl (sg false x) (2 ^ K) := by
  have hp : (0 : Int) < 2 ^ K := Int.pow_pos (by decide)
  unfold fl
  rw [if_pos hp]
  simp [sg]
theorem g_zshift {A z : Int} {k : Nat} (hk : k ≤ 1048576) (h0 : -9223372036854775808 ≤ z) (h9 : z ≤ 9223372036854775807) : ∀ w u v, Zv A k u w → Is (.int .i64 z) v w → Calls Try.prog 9 #[u, v] w (Gives (TWO (ZN (sw A z)) (IS (.int .i64 (se z)))) w) := by
  rintro w u v ⟨s, p, n, c, xs, rfl, h, rfl, hn⟩ e
  obtain rfl : v = _ := e
  unfold sw se
  by_cases hl : 65536 < z ∨ z < -65536
  · rw [if_pos hl, if_pos hl]
    rcases hl with hl | hl
    · exact Gives.two (zsh_w0 w s p n c xs z h _ rfl (by omega) h0 h9 hl) zero_zn
    · exact Gives.two (zsh_w1 w s p n c xs z h _ rfl (by omega) h0 h9 hl) zero_zn
  · rw [if_neg hl, if_neg hl]
    by_cases hz : 0 ≤ z
    · rw [if_pos hz]
      have e : sg s (val xs) * 2 ^ z.toNat = sg s (val xs * 2 ^ z.toNat) := by cases s <;> simp [sg, Int.neg_mul]
      rw [e]
      exact zsh_w2 w s p n c xs z h _ rfl (by omega) h0 h9 hz (by omega)
    · rw [if_neg hz]
      by_cases hA : (sg s (val xs)).sign < 0
      · have hneg : sg s (val xs) < 0 := by
          apply Classical.byContradiction
          intro hc
          have := Int.sign_nonneg_iff.2 (show 0 ≤ sg s (val xs) by omega)
          omega
        obtain rfl : s = true := by
          cases s with
          | true => rfl
          | false => simp [sg] at hneg; omega
        have hx : 1 ≤ val xs := by simp [sg] at hneg; omega
        rw [← fl_two_neg hx]
        exact zsh_w3 w true p n c xs z h _ rfl (by omega) h0 h9 (by omega) (by omega) hA hx
      · have e : fl (sg s (val xs)) (2 ^ (-z).toNat) = sg false (val xs / 2 ^ (-z).toNat) := by
          rw [fl_two_pos]
          congr 1
          cases s with
          | false => rfl
          | true =>
            have h1 : val xs = 0 := by
              apply Classical.byContradiction
              intro hc
              exact hA (by rw [Int.sign_eq_neg_one_of_neg (by simp only [sg, if_true]; omega)]; decide)
            rw [h1]; rfl
        rw [e]
        exact zsh_w4 w s p n c xs z h _ rfl (by omega) h0 h9 (by omega) (by omega) (by omega)
theorem g_rshift {A z : Int} {k : Nat} (hk : k ≤ 1048576) (h0 : -9223372036854775808 ≤ z) (h9 : z ≤ 9223372036854775807) : ∀ w u v, Zv A k u w → Is (.int .i64 z) v w → Calls Try.prog 10 #[u, v] w (Gives (TWO (ZN (sw A z)) (IS (.int .i64 (se z)))) w) := by
  rintro w u v ⟨s, p, n, c, xs, rfl, h, rfl, hn⟩ e
  obtain rfl : v = _ := e
  unfold sw se
  by_cases hl : 65536 < z ∨ z < -65536
  · rw [if_pos hl, if_pos hl]
    rcases hl with hl | hl
    · exact Gives.two (rsh_w0 w s p n c xs z h _ rfl (by omega) h0 h9 hl) zero_zn
    · exact Gives.two (rsh_w1 w s p n c xs z h _ rfl (by omega) h0 h9 hl) zero_zn
  · rw [if_neg hl, if_neg hl]
    by_cases hz : 0 ≤ z
    · rw [if_pos hz]
      exact rsh_w2 w s p n c xs z h _ rfl (by omega) h0 h9 hz (by omega)
    · rw [if_neg hz]
      exact rsh_w3 w s p n c xs z h _ rfl (by omega) h0 h9 (by omega) (by omega)

end Go.Proofs.Ytejhbjcgacblfaa

/-
  ZintPowers' walk: it returns true and writes nothing that was there.
-/
namespace Go.Proofs.Ytejhbjcgacblfaa
open Go Go.RowKit Nt
set_option linter.unusedSimpArgs false
set_option linter.unusedVariables false

set_option maxHeartbeats 1000000 in
theorem zpow_w (w : World) (s : Bool) (p : Option Addr) (n c : Nat) (xs : List Nat) (z : Int) (h : Sl w p n c xs) (A : Int) (eA : sg s (val xs) = A) (hn : n ≤ 1048576) (hz0 : -9223372036854775808 ≤ z) (hz9 : z ≤ 9223372036854775807) (hc : c ≤ 35184372087808) :
    Calls Try.prog 3 #[.agg #[.bool s, .slice p n c], .int .i64 z] w (Gives (IS (.bool true)) w) := by
  refine calls_sta (sl := [(0, (Zx s p n c xs)), (1, (Is (.int .i64 z)))]) Try.func3 rfl Try.ntmps3 (by simp) (args_cons rfl (zx_has h) (args_cons rfl (is_has _) args_nil)) ?_
  intro a0 S0
  refine wp_stmt_seq [.new (.box 24 (Zx s p n c xs)),
      .val (Is (.bool false))] [.inl 0] [.inl 1, .inr 1] follows S0 rfl (by kernel_rfl) ?_ ?_
  · refine ⟨⟨trivial, ?_⟩, ?_⟩
    · exact owe_box rfl (wants_all rfl) rfl (opnd_slot 0 0 rfl (by kernel_rfl)) rfl (fun ρ w h => box_int shp_zx ρ _ _ w h)
    · exact owe_move rfl (wants_all rfl) (Or.inr rfl) (opnd_const _) rfl
  intro B1 a1 W1 S1
  replace S1 : Sta w 52 [(2, (.box 24 (Zx s p n c xs)))] [(4, (Is (.bool false))), (1, (Is (.int .i64 z)))] B1 a1 W1 := S1
  refine wp_stmt_seq [.val (Zx s p n c xs),
      .val ((ZO s n xs) w.heap.size),
      .val (Is (.int .i64 z)),
      .val ((TWO (ZN (pw A z)) (IS (.int .i64 (pe A z)))) w.heap.size),
      .val ((TWO (ZN (pw A z)) (IS (.int .i64 (pe A z)))) w.heap.size),
      .val ((ZN (pw A z)) w.heap.size),
      .val (Is (.int .i64 (pe A z))),
      .new (.box 24 (Is (.agg #[.bool false, .slice none 0 0]))),
      .put (.inr 7) (.box 24 ((ZN (pw A z)) w.heap.size)),
      .val (Is (.int .i64 (pe A z)))] [.inr 0, .inl 7] [.inl 9, .inr 0, .inr 1] follows S1 rfl (by kernel_rfl) ?_ ?_
  · refine ⟨⟨⟨⟨⟨⟨⟨⟨⟨⟨trivial, ?_⟩, ?_⟩, ?_⟩, ?_⟩, ?_⟩, ?_⟩, ?_⟩, ?_⟩, ?_⟩, ?_⟩
    · exact owe_load rfl (wants_all rfl) rfl (k := 0) rfl (by kernel_rfl) (loads_of strct_int shp_zx) rfl
    · exact owe_call1 rfl (wants_all rfl) rfl (opnd_op 0 10 (by kernel_rfl) rfl) (fresh_zo _ _ _) rfl (fun args w => by go_simp) (g_own hc)
    · exact owe_move rfl (wants_all rfl) (Or.inl rfl) (opnd_slot 1 1 rfl (by kernel_rfl)) rfl
    · exact owe_call2 rfl (wants_all rfl) rfl (opnd_op 1 11 (by kernel_rfl) rfl) (opnd_op 2 12 (by kernel_rfl) rfl) (fresh_two (fresh_zn _) (fresh_is _)) rfl (fun args w => by go_simp) (fun w u v h1 h2 => g_zpow (by omega) hz0 hz9 w u v ((zo_zv eA (Nat.le_refl _)) _ _ h1) h2)
    · exact owe_move rfl (wants_all rfl) (Or.inl rfl) (opnd_op 3 13 (by kernel_rfl) rfl) rfl
    · exact owe_ext2 rfl (wants_all rfl) rfl (opnd_op 4 9 (by kernel_rfl) rfl) (Or.inl ⟨rfl, rfl⟩) rfl
    · exact owe_ext2 rfl (wants_all rfl) rfl (opnd_op 4 9 (by kernel_rfl) rfl) (Or.inr ⟨rfl, rfl⟩) rfl
    · exact owe_new rfl (wants_all rfl) rfl rfl (fun ρ w => alloc_int ρ _ w)
    · exact owe_put 7 rfl (wants_all rfl) rfl (by kernel_rfl) rfl (opnd_op 5 14 (by kernel_rfl) rfl) (stores_of strct_int shp_z0 shp_zn) rfl
    · exact owe_move rfl (wants_all rfl) (Or.inr rfl) (opnd_op 6 15 (by kernel_rfl) rfl) rfl
  intro B2 a2 W2 S2
  replace S2 : Sta w 52 [(2, (.box 24 (Zx s p n c xs))), (5, (.box 24 ((ZN (pw A z)) w.heap.size)))] [(6, (Is (.int .i64 (pe A z)))), (4, (Is (.bool false))), (1, (Is (.int .i64 z)))] B2 a2 W2 := S2
  refine wp_stmt_seq [.val (Zx s p n c xs),
      .val (Is (.int .i64 z)),
      .val ((TWO (ZN (pw A z)) (IS (.int .i64 (pe A z)))) w.heap.size),
      .val ((TWO (ZN (pw A z)) (IS (.int .i64 (pe A z)))) w.heap.size),
      .val ((ZN (pw A z)) w.heap.size),
      .val (Is (.int .i64 (pe A z))),
      .new (.box 24 (Is (.agg #[.bool false, .slice none 0 0]))),
      .put (.inr 6) (.box 24 ((ZN (pw A z)) w.heap.size)),
      .val (Is (.int .i64 (pe A z)))] [.inr 0, .inr 1, .inl 6] [.inl 8, .inr 0, .inr 1, .inr 2] follows S2 rfl (by kernel_rfl) ?_ ?_
  · refine ⟨⟨⟨⟨⟨⟨⟨⟨⟨trivial, ?_⟩, ?_⟩, ?_⟩, ?_⟩, ?_⟩, ?_⟩, ?_⟩, ?_⟩, ?_⟩
    · exact owe_load rfl (wants_all rfl) rfl (k := 0) rfl (by kernel_rfl) (loads_of strct_int shp_zx) rfl
    · exact owe_move rfl (wants_all rfl) (Or.inl rfl) (opnd_slot 2 1 rfl (by kernel_rfl)) rfl
    · exact owe_call2 rfl (wants_all rfl) rfl (opnd_op 0 17 (by kernel_rfl) rfl) (opnd_op 1 18 (by kernel_rfl) rfl) (fresh_two (fresh_zn _) (fresh_is _)) rfl (fun args w => by go_simp) (fun w u v h1 h2 => g_rpow (by omega) hz0 hz9 w u v ((zx_zv' eA (Nat.le_refl _)) _ _ h1) h2)
    · exact owe_move rfl (wants_all rfl) (Or.inl rfl) (opnd_op 2 19 (by kernel_rfl) rfl) rfl
    · exact owe_ext2 rfl (wants_all rfl) rfl (opnd_op 3 16 (by kernel_rfl) rfl) (Or.inl ⟨rfl, rfl⟩) rfl
    · exact owe_ext2 rfl (wants_all rfl) rfl (opnd_op 3 16 (by kernel_rfl) rfl) (Or.inr ⟨rfl, rfl⟩) rfl
    · exact owe_new rfl (wants_all rfl) rfl rfl (fun ρ w => alloc_int ρ _ w)
    · exact owe_put 6 rfl (wants_all rfl) rfl (by kernel_rfl) rfl (opnd_op 4 20 (by kernel_rfl) rfl) (stores_of strct_int shp_z0 shp_zn) rfl
    · exact owe_move rfl (wants_all rfl) (Or.inr rfl) (opnd_op 5 21 (by kernel_rfl) rfl) rfl
  intro B3 a3 W3 S3
  replace S3 : Sta w 52 [(2, (.box 24 (Zx s p n c xs))), (5, (.box 24 ((ZN (pw A z)) w.heap.size))), (7, (.box 24 ((ZN (pw A z)) w.heap.size)))] [(8, (Is (.int .i64 (pe A z)))), (6, (Is (.int .i64 (pe A z)))), (4, (Is (.bool false))), (1, (Is (.int .i64 z)))] B3 a3 W3 := S3
  refine wp_seq ?_
  refine wp_stmt_seq [.val (Is (.int .i64 (pe A z))),
      .val (Is (.int .i64 (pe A z))),
      .val (Is (.bool false)),
      .val (Is (.bool false)),
      .val ((ZN (pw A z)) w.heap.size),
      .val ((ZN (pw A z)) w.heap.size),
      .val (Is (.bool true)),
      .val (Is (.bool false)),
      .val (Is (.bool false))] [.inr 0, .inr 1, .inr 2] [.inl 8, .inr 0, .inr 1, .inr 2, .inr 3] follows S3 rfl (by kernel_rfl) ?_ ?_
  · refine ⟨⟨⟨⟨⟨⟨⟨⟨⟨trivial, ?_⟩, ?_⟩, ?_⟩, ?_⟩, ?_⟩, ?_⟩, ?_⟩, ?_⟩, ?_⟩
    · exact owe_move rfl (wants_all rfl) (Or.inl rfl) (opnd_slot 1 6 rfl (by kernel_rfl)) rfl
    · exact owe_move rfl (wants_all rfl) (Or.inl rfl) (opnd_slot 0 8 rfl (by kernel_rfl)) rfl
    · exact owe_bin rfl (wants_all rfl) rfl (opnd_op 0 22 (by kernel_rfl) rfl) (opnd_op 1 23 (by kernel_rfl) rfl) rfl (fun ρ w h1 h2 => by exact run_neq_int_f ρ _ _ _ w _ _ rfl h1 h2)
    · exact owe_move rfl (wants_all rfl) (Or.inl rfl) (opnd_op 2 24 (by kernel_rfl) rfl) rfl
    · exact owe_load rfl (wants_if 3 25 rfl (by kernel_rfl) rfl) rfl (k := 1) rfl (by kernel_rfl) (loads_of strct_int shp_zn) rfl
    · exact owe_load rfl (wants_if 3 25 rfl (by kernel_rfl) rfl) rfl (k := 2) rfl (by kernel_rfl) (loads_of strct_int shp_zn) rfl
    · exact owe_call2 rfl (wants_if 3 25 rfl (by kernel_rfl) rfl) rfl (opnd_op 4 26 (by kernel_rfl) rfl) (opnd_op 5 27 (by kernel_rfl) rfl) (fresh_is _) rfl (fun args w => by go_simp) g_eq
    · exact owe_un (x := .tmp 28) rfl (wants_if 3 25 rfl (by kernel_rfl) rfl) rfl (opnd_op 6 28 (by kernel_rfl) rfl) rfl (fun ρ w h1 => run_not ρ _ _ w _ h1)
    · exact owe_pick rfl (wants_all rfl) rfl (opnd_op 3 25 (by kernel_rfl) rfl) (fun h => nomatch h) (fun _ => (opnd_op 7 29 (by kernel_rfl) rfl)) rfl
  intro B4 a4 W4 S4
  replace S4 : Sta w 52 [(2, (.box 24 (Zx s p n c xs))), (5, (.box 24 ((ZN (pw A z)) w.heap.size))), (7, (.box 24 ((ZN (pw A z)) w.heap.size)))] [(30, (Is (.bool false))), (8, (Is (.int .i64 (pe A z)))), (6, (Is (.int .i64 (pe A z)))), (4, (Is (.bool false))), (1, (Is (.int .i64 z)))] B4 a4 W4 := S4
  refine wp_cond_false (S4.bool 0 30 rfl) ?_
  refine wp_skip ?_
  refine thenN ?_
  refine wp_stmt_seq [.val (Zx s p n c xs),
      .val ((ZO s n xs) w.heap.size),
      .val (Is (.int .i64 z)),
      .val ((TWO (ZN (sw A z)) (IS (.int .i64 (se z)))) w.heap.size),
      .val ((TWO (ZN (sw A z)) (IS (.int .i64 (se z)))) w.heap.size),
      .val ((ZN (sw A z)) w.heap.size),
      .val (Is (.int .i64 (se z))),
      .put (.inl 5) (.box 24 ((ZN (sw A z)) w.heap.size)),
      .val (Is (.int .i64 (se z)))] [.inr 0, .inr 1, .inr 2] [.inl 8, .inr 0, .inr 1, .inr 3, .inr 4] follows S4 rfl (by kernel_rfl) ?_ ?_
  · refine ⟨⟨⟨⟨⟨⟨⟨⟨⟨trivial, ?_⟩, ?_⟩, ?_⟩, ?_⟩, ?_⟩, ?_⟩, ?_⟩, ?_⟩, ?_⟩
    · exact owe_load rfl (wants_all rfl) rfl (k := 0) rfl (by kernel_rfl) (loads_of strct_int shp_zx) rfl
    · exact owe_call1 rfl (wants_all rfl) rfl (opnd_op 0 32 (by kernel_rfl) rfl) (fresh_zo _ _ _) rfl (fun args w => by go_simp) (g_own hc)
    · exact owe_move rfl (wants_all rfl) (Or.inl rfl) (opnd_slot 4 1 rfl (by kernel_rfl)) rfl
    · exact owe_call2 rfl (wants_all rfl) rfl (opnd_op 1 33 (by kernel_rfl) rfl) (opnd_op 2 34 (by kernel_rfl) rfl) (fresh_two (fresh_zn _) (fresh_is _)) rfl (fun args w => by go_simp) (fun w u v h1 h2 => g_zshift (by omega) hz0 hz9 w u v ((zo_zv eA (Nat.le_refl _)) _ _ h1) h2)
    · exact owe_move rfl (wants_all rfl) (Or.inl rfl) (opnd_op 3 35 (by kernel_rfl) rfl) rfl
    · exact owe_ext2 rfl (wants_all rfl) rfl (opnd_op 4 31 (by kernel_rfl) rfl) (Or.inl ⟨rfl, rfl⟩) rfl
    · exact owe_ext2 rfl (wants_all rfl) rfl (opnd_op 4 31 (by kernel_rfl) rfl) (Or.inr ⟨rfl, rfl⟩) rfl
    · exact owe_set rfl (wants_all rfl) rfl (k := 1) rfl (by kernel_rfl) (opnd_op 5 36 (by kernel_rfl) rfl) (stores_of strct_int shp_zn shp_zn) rfl
    · exact owe_move rfl (wants_all rfl) (Or.inr rfl) (opnd_op 6 37 (by kernel_rfl) rfl) rfl
  intro B5 a5 W5 S5
  replace S5 : Sta w 52 [(2, (.box 24 (Zx s p n c xs))), (5, (.box 24 ((ZN (sw A z)) w.heap.size))), (7, (.box 24 ((ZN (pw A z)) w.heap.size)))] [(6, (Is (.int .i64 (se z)))), (30, (Is (.bool false))), (8, (Is (.int .i64 (pe A z)))), (4, (Is (.bool false))), (1, (Is (.int .i64 z)))] B5 a5 W5 := S5
  refine wp_stmt_seq [.val (Zx s p n c xs),
      .val (Is (.int .i64 z)),
      .val ((TWO (ZN (sw A z)) (IS (.int .i64 (se z)))) w.heap.size),
      .val ((TWO (ZN (sw A z)) (IS (.int .i64 (se z)))) w.heap.size),
      .val ((ZN (sw A z)) w.heap.size),
      .val (Is (.int .i64 (se z))),
      .put (.inl 7) (.box 24 ((ZN (sw A z)) w.heap.size)),
      .val (Is (.int .i64 (se z)))] [.inr 0, .inr 1, .inr 2] [.inl 7, .inr 0, .inr 1, .inr 3, .inr 4] follows S5 rfl (by kernel_rfl) ?_ ?_
  · refine ⟨⟨⟨⟨⟨⟨⟨⟨trivial, ?_⟩, ?_⟩, ?_⟩, ?_⟩, ?_⟩, ?_⟩, ?_⟩, ?_⟩
    · exact owe_load rfl (wants_all rfl) rfl (k := 0) rfl (by kernel_rfl) (loads_of strct_int shp_zx) rfl
    · exact owe_move rfl (wants_all rfl) (Or.inl rfl) (opnd_slot 4 1 rfl (by kernel_rfl)) rfl
    · exact owe_call2 rfl (wants_all rfl) rfl (opnd_op 0 39 (by kernel_rfl) rfl) (opnd_op 1 40 (by kernel_rfl) rfl) (fresh_two (fresh_zn _) (fresh_is _)) rfl (fun args w => by go_simp) (fun w u v h1 h2 => g_rshift (by omega) hz0 hz9 w u v ((zx_zv' eA (Nat.le_refl _)) _ _ h1) h2)
    · exact owe_move rfl (wants_all rfl) (Or.inl rfl) (opnd_op 2 41 (by kernel_rfl) rfl) rfl
    · exact owe_ext2 rfl (wants_all rfl) rfl (opnd_op 3 38 (by kernel_rfl) rfl) (Or.inl ⟨rfl, rfl⟩) rfl
    · exact owe_ext2 rfl (wants_all rfl) rfl (opnd_op 3 38 (by kernel_rfl) rfl) (Or.inr ⟨rfl, rfl⟩) rfl
    · exact owe_set rfl (wants_all rfl) rfl (k := 2) rfl (by kernel_rfl) (opnd_op 4 42 (by kernel_rfl) rfl) (stores_of strct_int shp_zn shp_zn) rfl
    · exact owe_move rfl (wants_all rfl) (Or.inr rfl) (opnd_op 5 43 (by kernel_rfl) rfl) rfl
  intro B6 a6 W6 S6
  replace S6 : Sta w 52 [(2, (.box 24 (Zx s p n c xs))), (5, (.box 24 ((ZN (sw A z)) w.heap.size))), (7, (.box 24 ((ZN (sw A z)) w.heap.size)))] [(8, (Is (.int .i64 (se z)))), (6, (Is (.int .i64 (se z)))), (30, (Is (.bool false))), (4, (Is (.bool false))), (1, (Is (.int .i64 z)))] B6 a6 W6 := S6
  refine wp_stmt_seq [.val (Is (.int .i64 (se z))),
      .val (Is (.int .i64 (se z))),
      .val (Is (.bool true)),
      .val (Is (.bool true)),
      .val ((ZN (sw A z)) w.heap.size),
      .val ((ZN (sw A z)) w.heap.size),
      .val (Is (.bool true)),
      .val (Is (.bool true)),
      .val (Is (.bool true))] [.inr 0, .inr 1, .inr 2] [.inl 8, .inr 0, .inr 1, .inr 2, .inr 4] follows S6 rfl (by kernel_rfl) ?_ ?_
  · refine ⟨⟨⟨⟨⟨⟨⟨⟨⟨trivial, ?_⟩, ?_⟩, ?_⟩, ?_⟩, ?_⟩, ?_⟩, ?_⟩, ?_⟩, ?_⟩
    · exact owe_move rfl (wants_all rfl) (Or.inl rfl) (opnd_slot 1 6 rfl (by kernel_rfl)) rfl
    · exact owe_move rfl (wants_all rfl) (Or.inl rfl) (opnd_slot 0 8 rfl (by kernel_rfl)) rfl
    · exact owe_bin rfl (wants_all rfl) rfl (opnd_op 0 44 (by kernel_rfl) rfl) (opnd_op 1 45 (by kernel_rfl) rfl) rfl (fun ρ w h1 h2 => by exact run_eql_int_t ρ _ _ _ w _ _ rfl h1 h2)
    · exact owe_move rfl (wants_all rfl) (Or.inl rfl) (opnd_op 2 46 (by kernel_rfl) rfl) rfl
    · exact owe_load rfl (wants_if 3 47 rfl (by kernel_rfl) rfl) rfl (k := 1) rfl (by kernel_rfl) (loads_of strct_int shp_zn) rfl
    · exact owe_load rfl (wants_if 3 47 rfl (by kernel_rfl) rfl) rfl (k := 2) rfl (by kernel_rfl) (loads_of strct_int shp_zn) rfl
    · exact owe_call2 rfl (wants_if 3 47 rfl (by kernel_rfl) rfl) rfl (opnd_op 4 48 (by kernel_rfl) rfl) (opnd_op 5 49 (by kernel_rfl) rfl) (fresh_is _) rfl (fun args w => by go_simp) g_eq
    · exact owe_pick rfl (wants_all rfl) rfl (opnd_op 3 47 (by kernel_rfl) rfl) (fun _ => (opnd_op 6 50 (by kernel_rfl) rfl)) (fun h => nomatch h) rfl
    · exact owe_move rfl (wants_all rfl) (Or.inr rfl) (opnd_op 7 51 (by kernel_rfl) rfl) rfl
  intro B7 a7 W7 S7
  replace S7 : Sta w 52 [(2, (.box 24 (Zx s p n c xs))), (5, (.box 24 ((ZN (sw A z)) w.heap.size))), (7, (.box 24 ((ZN (sw A z)) w.heap.size)))] [(4, (Is (.bool true))), (8, (Is (.int .i64 (se z)))), (6, (Is (.int .i64 (se z)))), (30, (Is (.bool false))), (1, (Is (.int .i64 z)))] B7 a7 W7 := S7
  refine wp_ret ?_
  exact end_one S7 rfl (res_tmp S7 0 4 rfl)

theorem zpow_walk (w : World) (s : Bool) (p : Option Addr) (n c : Nat) (xs : List Nat) (z : Int) (h : Sl w p n c xs) (hc : c ≤ 1048576) (hz : -9223372036854775808 ≤ z ∧ z ≤ 9223372036854775807) :
    Calls Try.prog 3 #[.agg #[.bool s, .slice p n c], .int .i64 z] w fun e w' => e = .returned (.bool true) ∧ Below w.heap.size w w' := by
  have h1 := h.cap
  refine (zpow_w w s p n c xs z h _ rfl (by omega) hz.1 hz.2 (by omega)).mono ?_
  rintro e w' ⟨v, rfl, hb, hv⟩
  obtain rfl : v = _ := hv
  exact ⟨rfl, hb⟩
end Go.Proofs.Ytejhbjcgacblfaa
