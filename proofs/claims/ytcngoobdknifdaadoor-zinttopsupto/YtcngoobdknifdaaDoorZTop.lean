/-
  Roots, bits and top bits: zint's, and the document's.
-/
import Derived.Test.YtcngoobdknifdaaDoorRFloor
import Derived.Test.YtcngoobdknifdaaDoorTz
import Derived.Test.YtcngoobdknifdaaDoorZRSmall
import Derived.Test.YtcngoobdknifdaaDoorZSign
import Derived.Test.YtcngoobdknifdaaDoorRefRoot
import Derived.Test.YtcngoobdknifdaaDoorRoot
namespace Go.Proofs.YtcngoobdknifdaaDoor
open Go Go.RowKit Nt
set_option linter.unusedSimpArgs false
set_option linter.unusedVariables false

set_option maxHeartbeats 400000 in
theorem shr_w (w : World) (p : Option Addr) (n c : Nat) (xs : List Nat) (z : Int) (h : Sl w p n c xs) (hn : n ≤ 35184372088832) (hz : 0 ≤ z) (hz2 : z ≤ 9223372036854775807) :
    Calls Tryd.prog 20 #[.slice p n c, .int .i64 z] w (Gives (TWO (NN (val xs / 2 ^ z.toNat)) (IS (.int .i64 0))) w) := by
  have dx : (digs (val xs)).length ≤ n := h.dl
  refine calls_sta (sl := [(0, (Nx p n c xs)), (1, (Is (.int .i64 z)))]) Tryd.func20 rfl Tryd.ntmps20 (by simp) (args_cons rfl (nx_has h) (args_cons rfl (is_has _) args_nil)) ?_
  intro a0 S0
  refine wp_stmt_seq [.val (Is (.slice none 0 0)),
      .val (Is (.int .i64 0))] [] [.inl 0, .inl 1, .inr 0, .inr 1] follows S0 rfl (by kernel_rfl) ?_ ?_
  · refine ⟨⟨trivial, ?_⟩, ?_⟩
    · exact owe_move rfl (wants_all rfl) (Or.inr rfl) (opnd_const _) rfl
    · exact owe_move rfl (wants_all rfl) (Or.inr rfl) (opnd_const _) rfl
  intro B1 a1 W1 S1
  replace S1 : Sta w 12 [] [(4, (Is (.slice none 0 0))), (5, (Is (.int .i64 0))), (0, (Nx p n c xs)), (1, (Is (.int .i64 z)))] B1 a1 W1 := S1
  refine wp_seq ?_
  refine wp_stmt_seq [.val (Is (.int .i64 z)),
      .val (Is (.bool false))] [] [.inl 1, .inr 0, .inr 1, .inr 2, .inr 3] follows S1 rfl (by kernel_rfl) ?_ ?_
  · refine ⟨⟨trivial, ?_⟩, ?_⟩
    · exact owe_move rfl (wants_all rfl) (Or.inl rfl) (opnd_slot 3 1 rfl (by kernel_rfl)) rfl
    · exact owe_bin rfl (wants_all rfl) rfl (opnd_op 0 6 (by kernel_rfl) rfl) (opnd_const _) rfl (fun ρ w h1 h2 => by exact run_lss_int_f ρ _ _ _ w _ _ hz h1 h2)
  intro B2 a2 W2 S2
  replace S2 : Sta w 12 [] [(7, (Is (.bool false))), (4, (Is (.slice none 0 0))), (5, (Is (.int .i64 0))), (0, (Nx p n c xs)), (1, (Is (.int .i64 z)))] B2 a2 W2 := S2
  refine wp_cond_false (S2.bool 0 7 rfl) ?_
  refine wp_skip ?_
  refine thenN ?_
  refine wp_stmt_seq [.val (Nx p n c xs),
      .val (Nx p (digs (val xs)).length c (digs (val xs))),
      .val (Is (.int .i64 z)),
      .val ((NN (val xs / 2 ^ z.toNat)) w.heap.size),
      .val ((NN (val xs / 2 ^ z.toNat)) w.heap.size),
      .val (Is (.int .i64 0))] [] [.inl 4, .inl 5, .inr 0, .inr 4] follows S2 rfl (by kernel_rfl) ?_ ?_
  · refine ⟨⟨⟨⟨⟨⟨trivial, ?_⟩, ?_⟩, ?_⟩, ?_⟩, ?_⟩, ?_⟩
    · exact owe_move rfl (wants_all rfl) (Or.inl rfl) (opnd_slot 3 0 rfl (by kernel_rfl)) rfl
    · exact owe_callF1 rfl (wants_all rfl) rfl (opnd_op 0 8 (by kernel_rfl) rfl) rfl (fun args w => by go_simp) g_trim
    · exact owe_move rfl (wants_all rfl) (Or.inl rfl) (opnd_slot 4 1 rfl (by kernel_rfl)) rfl
    · exact owe_call2 rfl (wants_all rfl) rfl (opnd_op 1 9 (by kernel_rfl) rfl) (opnd_op 2 10 (by kernel_rfl) rfl) (fresh_nn _) rfl (fun args w => by go_simp) (fun w u v h1 h2 => g_down (z := z.toNat) (by omega) (by omega) w u v (digs_nx dx _ _ h1) (by rw [show ((z.toNat : Nat) : Int) = z from by omega]; exact h2))
    · exact owe_move rfl (wants_all rfl) (Or.inr rfl) (opnd_op 3 11 (by kernel_rfl) rfl) rfl
    · exact owe_move rfl (wants_all rfl) (Or.inr rfl) (opnd_const _) rfl
  intro B3 a3 W3 S3
  replace S3 : Sta w 12 [] [(4, ((NN (val xs / 2 ^ z.toNat)) w.heap.size)), (5, (Is (.int .i64 0))), (7, (Is (.bool false))), (1, (Is (.int .i64 z)))] B3 a3 W3 := S3
  refine wp_ret ?_
  exact end_two S3 rfl (res_tmp S3 0 4 rfl) (res_tmp S3 1 5 rfl)


theorem g_shr {x k : Nat} {z : Int} (hk : k ≤ 35184372088832) (hz : 0 ≤ z) (hz2 : z ≤ 9223372036854775807) : ∀ w u v, Nv x k u w → Is (.int .i64 z) v w → Calls Tryd.prog 20 #[u, v] w (Gives (TWO (NN (x / 2 ^ z.toNat)) (IS (.int .i64 0))) w) := by
  rintro w u v ⟨p, n, c, xs, rfl, h, rfl, hn⟩ e
  obtain rfl : v = _ := e
  exact shr_w w p n c xs z h (by omega) hz hz2
theorem g_zsign {A : Int} {k : Nat} (hk : k ≤ 70368744177664) : ∀ w u, Zv A k u w → Calls Tryd.prog 12 #[u] w (Gives (IS (.int .i64 A.sign)) w) := by
  rintro w u ⟨s, p, n, c, xs, rfl, h, rfl, hn⟩
  refine (zsign_c w s p n c xs h (by omega)).mono ?_
  rintro e w' ⟨rfl, hb⟩
  exact ⟨_, rfl, hb, rfl⟩
theorem g_rabs {A : Int} {k : Nat} (hk : k ≤ 35184372088832) : ∀ w u, Zv A k u w → Calls Tryd.prog 24 #[u] w (Gives (ZN (A.natAbs : Int)) w) := by
  rintro w u ⟨s, p, n, c, xs, rfl, h, rfl, hn⟩
  rw [sg_abs]
  refine (zrabs_c w s p n c xs h (by omega)).mono ?_
  rintro e w' ⟨r, cr, rfl, Z⟩
  exact za_gives Z
theorem g_rsmall {A : Int} {k : Nat} (hk : k ≤ 35184372088831) : ∀ w u, Zv A k u w → Calls Tryd.prog 26 #[u] w (Gives (TWO (IS (.int .i64 (smV A))) (IS (.bool (smK A)))) w) := by
  rintro w u ⟨s, p, n, c, xs, rfl, h, rfl, hn⟩
  refine (zrsmall_c w s p n c xs h (by omega)).mono ?_
  rintro e w' ⟨rfl, hb⟩
  exact ⟨_, rfl, hb, _, _, rfl, rfl, rfl⟩
theorem g_radd1 {x y ka kb : Nat} (hk : ka ≤ 35184372088831) (hk' : kb ≤ 35184372088831) : ∀ w u v, Nv x ka u w → Nv y kb v w → Calls Tryd.prog 37 #[u, v] w (Gives (NN (x + y)) w) := by
  rintro w u v ⟨p, n, c, xs, rfl, h, rfl, hn⟩ ⟨q, m, d, ys, rfl, h', rfl, hm⟩
  refine (radd_c w p q n c m d xs ys h h' (by omega) (by omega)).mono ?_
  rintro e w' ⟨r, cr, rfl, A⟩
  exact ⟨_, rfl, A.below, ans_nn A⟩
theorem g_rmul1 {x y ka kb : Nat} (hk : ka + kb ≤ 35184372088832) : ∀ w u v, Nv x ka u w → Nv y kb v w → Calls Tryd.prog 40 #[u, v] w (Gives (NN (x * y)) w) := by
  rintro w u v ⟨p, n, c, xs, rfl, h, rfl, hn⟩ ⟨q, m, d, ys, rfl, h', rfl, hm⟩
  refine (rmul_c w p q n c m d xs ys h h' (by omega)).mono ?_
  rintro e w' ⟨r, cr, rfl, A⟩
  exact ⟨_, rfl, A.below, ans_nn A⟩
theorem g_rcmp1 {x y ka kb : Nat} : ∀ w u v, Nv x ka u w → Nv y kb v w → Calls Tryd.prog 39 #[u, v] w (Gives (IS (.int .i64 (cmpN x y))) w) := by
  rintro w u v ⟨p, n, c, xs, rfl, h, rfl, hn⟩ ⟨q, m, d, ys, rfl, h', rfl, hm⟩
  refine (rcmp_c w p q n c m d xs ys h h').mono ?_
  rintro e w' ⟨rfl, rfl⟩
  exact ⟨_, rfl, Below.refl _ _, rfl⟩
open Classical in
/-- The root, rounded down. -/
noncomputable def rt (X : Nat) : Nat := if h : ∃ R, IsRoot X R then Classical.choose h else 0
theorem rt_eq {X R : Nat} (h : IsRoot X R) : rt X = R := by
  unfold rt
  rw [dif_pos ⟨R, h⟩]
  exact isRoot_unique (Classical.choose_spec (p := fun R => IsRoot X R) ⟨R, h⟩) h
theorem g_root {x k : Nat} (hk : k ≤ 35184372088832) : ∀ w u, Nv x k u w → Calls Tryd.prog 14 #[u] w (Gives (NN (rt x)) w) := by
  rintro w u ⟨p, n, c, xs, rfl, h, rfl, hn⟩
  refine (root_c w p n c xs h (by omega)).mono ?_
  rintro e w' ⟨R, r, cr, rfl, A, hR⟩
  rw [rt_eq hR]
  exact ⟨_, rfl, A.below, res_nn A⟩

theorem root_split (k R X : Nat) : (0 < k ∧ (R + 2 ^ (k - 1)) * (R + 2 ^ (k - 1)) ≤ X) ∨ (0 < k ∧ X < (R + 2 ^ (k - 1)) * (R + 2 ^ (k - 1))) ∨ ¬ 0 < k := by omega
theorem cmpN_le {x y : Nat} (h : x ≤ y) : cmpN x y ≤ 0 := by unfold cmpN; split; omega; split <;> omega
theorem cmpN_gt {x y : Nat} (h : y < x) : 0 < cmpN x y := by unfold cmpN; rw [if_neg (by omega), if_neg (by omega)]; omega

set_option maxHeartbeats 400000 in
theorem rroot_w (w : World) (p : Option Addr) (n c : Nat) (xs : List Nat) (h : Sl w p n c xs) (hn : n ≤ 1048576) (bl N : Nat) (hbl : Go.bitLen (val xs) = bl) (hN : (bl + 1) / 2 = N) (hb2 : Go.bitLen (val xs) ≤ 2 * N) (hN1 : N ≤ 16777217) :
    Calls Tryd.prog 17 #[.slice p n c] w (Gives (NN (rt (val xs))) w) := by
  refine calls_sta (sl := [(0, (Nx p n c xs))]) Tryd.func17 rfl Tryd.ntmps17 (by simp) (args_cons rfl (nx_has h) args_nil) ?_
  intro a0 S0
  refine wp_stmt_seq [.val (Is (.slice none 0 0))] [] [.inl 0, .inr 0] follows S0 rfl (by kernel_rfl) ?_ ?_
  · refine ⟨trivial, ?_⟩
    · exact owe_move rfl (wants_all rfl) (Or.inr rfl) (opnd_const _) rfl
  intro B1 a1 W1 S1
  replace S1 : Sta w 26 [] [(2, (Is (.slice none 0 0))), (0, (Nx p n c xs))] B1 a1 W1 := S1
  refine wp_stmt_seq [.val (Is (.slice none 0 0))] [] [.inl 0, .inr 0, .inr 1] follows S1 rfl (by kernel_rfl) ?_ ?_
  · refine ⟨trivial, ?_⟩
    · exact owe_move rfl (wants_all rfl) (Or.inr rfl) (opnd_const _) rfl
  intro B2 a2 W2 S2
  replace S2 : Sta w 26 [] [(3, (Is (.slice none 0 0))), (2, (Is (.slice none 0 0))), (0, (Nx p n c xs))] B2 a2 W2 := S2
  refine wp_seq ?_
  refine wp_stmt_seq [.val (Nx p n c xs),
      .val (Is (.int .i64 bl)),
      .val (Is (.int .i64 ((bl : Int) + 1))),
      .val (Is (.int .i64 (((N + 1 : Nat) : Int) - 1))),
      .val (Is (.int .i64 (((N + 1 : Nat) : Int) - 1)))] [] [.inl 4, .inr 0, .inr 1, .inr 2] follows S2 rfl (by kernel_rfl) ?_ ?_
  · refine ⟨⟨⟨⟨⟨trivial, ?_⟩, ?_⟩, ?_⟩, ?_⟩, ?_⟩
    · exact owe_move rfl (wants_all rfl) (Or.inl rfl) (opnd_slot 2 0 rfl (by kernel_rfl)) rfl
    · exact owe_call1 rfl (wants_all rfl) rfl (opnd_op 0 6 (by kernel_rfl) rfl) (fresh_is _) rfl (fun args w => by go_simp) (fun w u0 h0 => Gives.cast ((fun w u h1 => g_rbits1 (by omega) w u ((nx_nv (Nat.le_refl _)) _ _ h1)) w u0 h0) (by rw [hbl]))
    · exact owe_bin rfl (wants_all rfl) rfl (opnd_op 1 7 (by kernel_rfl) rfl) (opnd_const _) rfl (fun ρ w h1 h2 => by exact run_add_int ρ _ _ _ w _ _ _ ⟨rfl, by omega, by omega⟩ h1 h2)
    · exact owe_bin rfl (wants_all rfl) rfl (opnd_op 2 8 (by kernel_rfl) rfl) (opnd_const _) rfl (fun ρ w h1 h2 => by exact run_quo_int ρ _ _ _ w _ _ _ ⟨by omega, by omega, by omega, by omega⟩ h1 h2)
    · exact owe_move rfl (wants_all rfl) (Or.inr rfl) (opnd_op 3 9 (by kernel_rfl) rfl) rfl
  intro B3 a3 W3 S3
  replace S3 : Sta w 26 [] [(4, (Is (.int .i64 (((N + 1 : Nat) : Int) - 1)))), (3, (Is (.slice none 0 0))), (2, (Is (.slice none 0 0))), (0, (Nx p n c xs))] B3 a3 W3 := S3
  refine wp_block ?_
  replace S3 : Sta w 26 [] [(4, (Is (.int .i64 (((N + 1 : Nat) : Int) - 1)))), (3, ((NN (0)) w.heap.size)), (2, (Is (.slice none 0 0))), (0, (Nx p n c xs))] B3 a3 W3 := S3.change 1 rfl zero_nn
  refine wp_loop_ghost (fun (g : Nat × Nat) a W => (g.1 ≤ N + 1 ∧ RB (val xs) g.1 g.2) ∧ ∃ B, Sta w 26 [] [(4, (Is (.int .i64 (((g.1 : Nat) : Int) - 1)))), (3, ((NN (g.2)) w.heap.size)), (0, (Nx p n c xs))] B a W) (fun (g : Nat × Nat) => g.1) ?_ (N + 1, 0) ⟨⟨Nat.le_refl _, rb_start hb2⟩, B3, S3.sub [] [0, 1, 3]⟩
  rintro g a4 W4 ⟨hcond, B4, S4⟩
  rcases root_split g.1 g.2 (val xs) with ⟨hgo, hle⟩ | ⟨hgo, hle⟩ | hgo
  · obtain ⟨j, hj⟩ : ∃ j, g.1 = j + 1 := ⟨g.1 - 1, by omega⟩
    rw [show g.1 - 1 = j from by omega] at hle
    have hRB : RB (val xs) (j + 1) g.2 := hj ▸ hcond.2
    have hMl := rb_len hRB.1 hb2 (show j ≤ N by omega)
    have hRl : (digs g.2).length ≤ N / 32 + 1 := Nat.le_trans (digs_length_mono (Nat.le_add_right _ (2 ^ j))) hMl
    refine wp_seq ?_
    refine wp_stmt_seq [.val (Is (.int .i64 (((g.1 : Nat) : Int) - 1))),
      .val (Is (.bool true))] [] [.inl 1, .inr 0, .inr 1, .inr 2] follows S4 rfl (by kernel_rfl) ?_ ?_
    · refine ⟨⟨trivial, ?_⟩, ?_⟩
      · exact owe_move rfl (wants_all rfl) (Or.inl rfl) (opnd_slot 0 4 rfl (by kernel_rfl)) rfl
      · exact owe_bin rfl (wants_all rfl) rfl (opnd_op 0 10 (by kernel_rfl) rfl) (opnd_const _) rfl (fun ρ w h1 h2 => by exact run_geq_int_t ρ _ _ _ w _ _ (by omega) h1 h2)
    intro B5 a5 W5 S5
    replace S5 : Sta w 26 [] [(11, (Is (.bool true))), (4, (Is (.int .i64 (((g.1 : Nat) : Int) - 1)))), (3, ((NN (g.2)) w.heap.size)), (0, (Nx p n c xs))] B5 a5 W5 := S5
    refine wp_cond_true (S5.bool 0 11 rfl) ?_
    refine wp_skip ?_
    refine thenN ?_
    refine wp_seq ?_
    refine wp_block ?_
    refine wp_stmt_seq [.val ((NN (g.2)) w.heap.size),
      .val (Is (.int .i64 (((g.1 : Nat) : Int) - 1))),
      .val ((NW (2 ^ j) (j / 32 + 1)) w.heap.size),
      .val ((NN ((g.2) + (2 ^ j))) w.heap.size),
      .val ((NN ((g.2) + (2 ^ j))) w.heap.size)] [] [.inl 4, .inr 0, .inr 1, .inr 2, .inr 3] follows S5 rfl (by kernel_rfl) ?_ ?_
    · refine ⟨⟨⟨⟨⟨trivial, ?_⟩, ?_⟩, ?_⟩, ?_⟩, ?_⟩
      · exact owe_move rfl (wants_all rfl) (Or.inl rfl) (opnd_slot 2 3 rfl (by kernel_rfl)) rfl
      · exact owe_move rfl (wants_all rfl) (Or.inl rfl) (opnd_slot 1 4 rfl (by kernel_rfl)) rfl
      · exact owe_call1 rfl (wants_all rfl) rfl (opnd_op 1 15 (by kernel_rfl) rfl) (fresh_nw _ _) rfl (fun args w => by go_simp) (fun w u h1 => g_rtwo1 (x := j) (by omega) w u (by rw [show ((j : Nat) : Int) = ((g.1 : Nat) : Int) - 1 from by omega]; exact h1))
      · exact owe_call2 rfl (wants_all rfl) rfl (opnd_op 0 14 (by kernel_rfl) rfl) (opnd_op 2 16 (by kernel_rfl) rfl) (fresh_nn _) rfl (fun args w => by go_simp) (fun w u v h1 h2 => g_radd1 (by omega) (by omega) w u v ((nn_nv hRl) _ _ h1) (nw_nv _ _ h2))
      · exact owe_move rfl (wants_all rfl) (Or.inr rfl) (opnd_op 3 17 (by kernel_rfl) rfl) rfl
    intro B6 a6 W6 S6
    replace S6 : Sta w 26 [] [(5, ((NN ((g.2) + (2 ^ j))) w.heap.size)), (11, (Is (.bool true))), (4, (Is (.int .i64 (((g.1 : Nat) : Int) - 1)))), (3, ((NN (g.2)) w.heap.size)), (0, (Nx p n c xs))] B6 a6 W6 := S6
    refine wp_stmt_seq [.val ((NN ((g.2) + (2 ^ j))) w.heap.size),
      .val ((NN ((g.2) + (2 ^ j))) w.heap.size),
      .val ((NN (((g.2) + (2 ^ j)) * ((g.2) + (2 ^ j)))) w.heap.size),
      .val (Nx p n c xs),
      .val (Is (.int .i64 (cmpN (((g.2) + (2 ^ j)) * ((g.2) + (2 ^ j))) (val xs)))),
      .val (Is (.bool true))] [] [.inl 5, .inr 0, .inr 1, .inr 2, .inr 3, .inr 4] follows S6 rfl (by kernel_rfl) ?_ ?_
    · refine ⟨⟨⟨⟨⟨⟨trivial, ?_⟩, ?_⟩, ?_⟩, ?_⟩, ?_⟩, ?_⟩
      · exact owe_move rfl (wants_all rfl) (Or.inl rfl) (opnd_slot 0 5 rfl (by kernel_rfl)) rfl
      · exact owe_move rfl (wants_all rfl) (Or.inl rfl) (opnd_slot 0 5 rfl (by kernel_rfl)) rfl
      · exact owe_call2 rfl (wants_all rfl) rfl (opnd_op 0 18 (by kernel_rfl) rfl) (opnd_op 1 19 (by kernel_rfl) rfl) (fresh_nn _) rfl (fun args w => by go_simp) (fun w u v h1 h2 => g_rmul1 (by omega) w u v ((nn_nv hMl) _ _ h1) ((nn_nv hMl) _ _ h2))
      · exact owe_move rfl (wants_all rfl) (Or.inl rfl) (opnd_slot 4 0 rfl (by kernel_rfl)) rfl
      · exact owe_call2 rfl (wants_all rfl) rfl (opnd_op 2 20 (by kernel_rfl) rfl) (opnd_op 3 21 (by kernel_rfl) rfl) (fresh_is _) rfl (fun args w => by go_simp) (fun w u v h1 h2 => g_rcmp1  w u v ((nn_nv (Nat.le_refl _)) _ _ h1) ((nx_nv (Nat.le_refl _)) _ _ h2))
      · exact owe_bin rfl (wants_all rfl) rfl (opnd_op 4 22 (by kernel_rfl) rfl) (opnd_const _) rfl (fun ρ w h1 h2 => by exact run_leq_int_t ρ _ _ _ w _ _ (cmpN_le hle) h1 h2)
    intro B7 a7 W7 S7
    replace S7 : Sta w 26 [] [(23, (Is (.bool true))), (5, ((NN ((g.2) + (2 ^ j))) w.heap.size)), (11, (Is (.bool true))), (4, (Is (.int .i64 (((g.1 : Nat) : Int) - 1)))), (3, ((NN (g.2)) w.heap.size)), (0, (Nx p n c xs))] B7 a7 W7 := S7
    refine wp_cond_true (S7.bool 0 23 rfl) ?_
    refine wp_stmt [.val ((NN ((g.2) + (2 ^ j))) w.heap.size),
      .val ((NN ((g.2) + (2 ^ j))) w.heap.size)] [] [.inl 1, .inr 0, .inr 1, .inr 2, .inr 3, .inr 5] follows S7 rfl (by kernel_rfl) ?_ ?_
    · refine ⟨⟨trivial, ?_⟩, ?_⟩
      · exact owe_move rfl (wants_all rfl) (Or.inl rfl) (opnd_slot 1 5 rfl (by kernel_rfl)) rfl
      · exact owe_move rfl (wants_all rfl) (Or.inr rfl) (opnd_op 0 24 (by kernel_rfl) rfl) rfl
    intro B8 a8 W8 S8
    replace S8 : Sta w 26 [] [(3, ((NN ((g.2) + (2 ^ j))) w.heap.size)), (23, (Is (.bool true))), (5, ((NN ((g.2) + (2 ^ j))) w.heap.size)), (11, (Is (.bool true))), (4, (Is (.int .i64 (((g.1 : Nat) : Int) - 1)))), (0, (Nx p n c xs))] B8 a8 W8 := S8
    refine inBlkN ?_
    refine thenN ?_
    refine wp_stmt [.val (Is (.int .i64 (((g.1 : Nat) : Int) - 1))),
      .val (Is (.int .i64 (((j : Nat) : Int) - 1))),
      .val (Is (.int .i64 (((j : Nat) : Int) - 1)))] [] [.inl 2, .inr 0, .inr 1, .inr 2, .inr 3, .inr 5] follows S8 rfl (by kernel_rfl) ?_ ?_
    · refine ⟨⟨⟨trivial, ?_⟩, ?_⟩, ?_⟩
      · exact owe_move rfl (wants_all rfl) (Or.inl rfl) (opnd_slot 4 4 rfl (by kernel_rfl)) rfl
      · exact owe_bin rfl (wants_all rfl) rfl (opnd_op 0 12 (by kernel_rfl) rfl) (opnd_const _) rfl (fun ρ w h1 h2 => by exact run_sub_int ρ _ _ _ w _ _ _ ⟨by omega, by omega, by omega⟩ h1 h2)
      · exact owe_move rfl (wants_all rfl) (Or.inr rfl) (opnd_op 1 13 (by kernel_rfl) rfl) rfl
    intro B9 a9 W9 S9
    replace S9 : Sta w 26 [] [(4, (Is (.int .i64 (((j : Nat) : Int) - 1)))), (3, ((NN ((g.2) + (2 ^ j))) w.heap.size)), (23, (Is (.bool true))), (5, ((NN ((g.2) + (2 ^ j))) w.heap.size)), (11, (Is (.bool true))), (0, (Nx p n c xs))] B9 a9 W9 := S9
    refine thenN ?_
    exact ⟨(j, g.2 + 2 ^ j), ⟨⟨by omega, rb_yes hRB hle⟩, B9, S9.sub [] [0, 1, 5]⟩, by show j < g.1; omega⟩
  · obtain ⟨j, hj⟩ : ∃ j, g.1 = j + 1 := ⟨g.1 - 1, by omega⟩
    rw [show g.1 - 1 = j from by omega] at hle
    have hRB : RB (val xs) (j + 1) g.2 := hj ▸ hcond.2
    have hMl := rb_len hRB.1 hb2 (show j ≤ N by omega)
    have hRl : (digs g.2).length ≤ N / 32 + 1 := Nat.le_trans (digs_length_mono (Nat.le_add_right _ (2 ^ j))) hMl
    refine wp_seq ?_
    refine wp_stmt_seq [.val (Is (.int .i64 (((g.1 : Nat) : Int) - 1))),
      .val (Is (.bool true))] [] [.inl 1, .inr 0, .inr 1, .inr 2] follows S4 rfl (by kernel_rfl) ?_ ?_
    · refine ⟨⟨trivial, ?_⟩, ?_⟩
      · exact owe_move rfl (wants_all rfl) (Or.inl rfl) (opnd_slot 0 4 rfl (by kernel_rfl)) rfl
      · exact owe_bin rfl (wants_all rfl) rfl (opnd_op 0 10 (by kernel_rfl) rfl) (opnd_const _) rfl (fun ρ w h1 h2 => by exact run_geq_int_t ρ _ _ _ w _ _ (by omega) h1 h2)
    intro B5 a5 W5 S5
    replace S5 : Sta w 26 [] [(11, (Is (.bool true))), (4, (Is (.int .i64 (((g.1 : Nat) : Int) - 1)))), (3, ((NN (g.2)) w.heap.size)), (0, (Nx p n c xs))] B5 a5 W5 := S5
    refine wp_cond_true (S5.bool 0 11 rfl) ?_
    refine wp_skip ?_
    refine thenN ?_
    refine wp_seq ?_
    refine wp_block ?_
    refine wp_stmt_seq [.val ((NN (g.2)) w.heap.size),
      .val (Is (.int .i64 (((g.1 : Nat) : Int) - 1))),
      .val ((NW (2 ^ j) (j / 32 + 1)) w.heap.size),
      .val ((NN ((g.2) + (2 ^ j))) w.heap.size),
      .val ((NN ((g.2) + (2 ^ j))) w.heap.size)] [] [.inl 4, .inr 0, .inr 1, .inr 2, .inr 3] follows S5 rfl (by kernel_rfl) ?_ ?_
    · refine ⟨⟨⟨⟨⟨trivial, ?_⟩, ?_⟩, ?_⟩, ?_⟩, ?_⟩
      · exact owe_move rfl (wants_all rfl) (Or.inl rfl) (opnd_slot 2 3 rfl (by kernel_rfl)) rfl
      · exact owe_move rfl (wants_all rfl) (Or.inl rfl) (opnd_slot 1 4 rfl (by kernel_rfl)) rfl
      · exact owe_call1 rfl (wants_all rfl) rfl (opnd_op 1 15 (by kernel_rfl) rfl) (fresh_nw _ _) rfl (fun args w => by go_simp) (fun w u h1 => g_rtwo1 (x := j) (by omega) w u (by rw [show ((j : Nat) : Int) = ((g.1 : Nat) : Int) - 1 from by omega]; exact h1))
      · exact owe_call2 rfl (wants_all rfl) rfl (opnd_op 0 14 (by kernel_rfl) rfl) (opnd_op 2 16 (by kernel_rfl) rfl) (fresh_nn _) rfl (fun args w => by go_simp) (fun w u v h1 h2 => g_radd1 (by omega) (by omega) w u v ((nn_nv hRl) _ _ h1) (nw_nv _ _ h2))
      · exact owe_move rfl (wants_all rfl) (Or.inr rfl) (opnd_op 3 17 (by kernel_rfl) rfl) rfl
    intro B6 a6 W6 S6
    replace S6 : Sta w 26 [] [(5, ((NN ((g.2) + (2 ^ j))) w.heap.size)), (11, (Is (.bool true))), (4, (Is (.int .i64 (((g.1 : Nat) : Int) - 1)))), (3, ((NN (g.2)) w.heap.size)), (0, (Nx p n c xs))] B6 a6 W6 := S6
    refine wp_stmt_seq [.val ((NN ((g.2) + (2 ^ j))) w.heap.size),
      .val ((NN ((g.2) + (2 ^ j))) w.heap.size),
      .val ((NN (((g.2) + (2 ^ j)) * ((g.2) + (2 ^ j)))) w.heap.size),
      .val (Nx p n c xs),
      .val (Is (.int .i64 (cmpN (((g.2) + (2 ^ j)) * ((g.2) + (2 ^ j))) (val xs)))),
      .val (Is (.bool false))] [] [.inl 5, .inr 0, .inr 1, .inr 2, .inr 3, .inr 4] follows S6 rfl (by kernel_rfl) ?_ ?_
    · refine ⟨⟨⟨⟨⟨⟨trivial, ?_⟩, ?_⟩, ?_⟩, ?_⟩, ?_⟩, ?_⟩
      · exact owe_move rfl (wants_all rfl) (Or.inl rfl) (opnd_slot 0 5 rfl (by kernel_rfl)) rfl
      · exact owe_move rfl (wants_all rfl) (Or.inl rfl) (opnd_slot 0 5 rfl (by kernel_rfl)) rfl
      · exact owe_call2 rfl (wants_all rfl) rfl (opnd_op 0 18 (by kernel_rfl) rfl) (opnd_op 1 19 (by kernel_rfl) rfl) (fresh_nn _) rfl (fun args w => by go_simp) (fun w u v h1 h2 => g_rmul1 (by omega) w u v ((nn_nv hMl) _ _ h1) ((nn_nv hMl) _ _ h2))
      · exact owe_move rfl (wants_all rfl) (Or.inl rfl) (opnd_slot 4 0 rfl (by kernel_rfl)) rfl
      · exact owe_call2 rfl (wants_all rfl) rfl (opnd_op 2 20 (by kernel_rfl) rfl) (opnd_op 3 21 (by kernel_rfl) rfl) (fresh_is _) rfl (fun args w => by go_simp) (fun w u v h1 h2 => g_rcmp1  w u v ((nn_nv (Nat.le_refl _)) _ _ h1) ((nx_nv (Nat.le_refl _)) _ _ h2))
      · exact owe_bin rfl (wants_all rfl) rfl (opnd_op 4 22 (by kernel_rfl) rfl) (opnd_const _) rfl (fun ρ w h1 h2 => by exact run_leq_int_f ρ _ _ _ w _ _ (cmpN_gt hle) h1 h2)
    intro B7 a7 W7 S7
    replace S7 : Sta w 26 [] [(23, (Is (.bool false))), (5, ((NN ((g.2) + (2 ^ j))) w.heap.size)), (11, (Is (.bool true))), (4, (Is (.int .i64 (((g.1 : Nat) : Int) - 1)))), (3, ((NN (g.2)) w.heap.size)), (0, (Nx p n c xs))] B7 a7 W7 := S7
    refine wp_cond_false (S7.bool 0 23 rfl) ?_
    refine wp_skip ?_
    refine inBlkN ?_
    refine thenN ?_
    refine wp_stmt [.val (Is (.int .i64 (((g.1 : Nat) : Int) - 1))),
      .val (Is (.int .i64 (((j : Nat) : Int) - 1))),
      .val (Is (.int .i64 (((j : Nat) : Int) - 1)))] [] [.inl 2, .inr 0, .inr 1, .inr 2, .inr 4, .inr 5] follows S7 rfl (by kernel_rfl) ?_ ?_
    · refine ⟨⟨⟨trivial, ?_⟩, ?_⟩, ?_⟩
      · exact owe_move rfl (wants_all rfl) (Or.inl rfl) (opnd_slot 3 4 rfl (by kernel_rfl)) rfl
      · exact owe_bin rfl (wants_all rfl) rfl (opnd_op 0 12 (by kernel_rfl) rfl) (opnd_const _) rfl (fun ρ w h1 h2 => by exact run_sub_int ρ _ _ _ w _ _ _ ⟨by omega, by omega, by omega⟩ h1 h2)
      · exact owe_move rfl (wants_all rfl) (Or.inr rfl) (opnd_op 1 13 (by kernel_rfl) rfl) rfl
    intro B8 a8 W8 S8
    replace S8 : Sta w 26 [] [(4, (Is (.int .i64 (((j : Nat) : Int) - 1)))), (23, (Is (.bool false))), (5, ((NN ((g.2) + (2 ^ j))) w.heap.size)), (11, (Is (.bool true))), (3, ((NN (g.2)) w.heap.size)), (0, (Nx p n c xs))] B8 a8 W8 := S8
    refine thenN ?_
    exact ⟨(j, g.2), ⟨⟨by omega, rb_no hRB hle⟩, B8, S8.sub [] [0, 4, 5]⟩, by show j < g.1; omega⟩
  · have er : rt (val xs) = g.2 := rt_eq (rb_end (by have := hcond.2; rwa [show g.1 = 0 from by omega] at this))
    rw [er]
    refine wp_seq ?_
    refine wp_stmt_seq [.val (Is (.int .i64 (((g.1 : Nat) : Int) - 1))),
      .val (Is (.bool false))] [] [.inl 1, .inr 0, .inr 1, .inr 2] follows S4 rfl (by kernel_rfl) ?_ ?_
    · refine ⟨⟨trivial, ?_⟩, ?_⟩
      · exact owe_move rfl (wants_all rfl) (Or.inl rfl) (opnd_slot 0 4 rfl (by kernel_rfl)) rfl
      · exact owe_bin rfl (wants_all rfl) rfl (opnd_op 0 10 (by kernel_rfl) rfl) (opnd_const _) rfl (fun ρ w h1 h2 => by exact run_geq_int_f ρ _ _ _ w _ _ (by omega) h1 h2)
    intro B5 a5 W5 S5
    replace S5 : Sta w 26 [] [(11, (Is (.bool false))), (4, (Is (.int .i64 (((g.1 : Nat) : Int) - 1)))), (3, ((NN (g.2)) w.heap.size)), (0, (Nx p n c xs))] B5 a5 W5 := S5
    refine wp_cond_false (S5.bool 0 11 rfl) ?_
    refine wp_exit ?_
    refine thenX ?_
    refine thenX ?_
    refine inBlkE ?_
    refine thenN ?_
    refine wp_stmt_seq [.val ((NN (g.2)) w.heap.size),
      .val ((NN (g.2)) w.heap.size)] [] [.inl 1, .inr 0, .inr 1, .inr 2, .inr 3] follows S5 rfl (by kernel_rfl) ?_ ?_
    · refine ⟨⟨trivial, ?_⟩, ?_⟩
      · exact owe_move rfl (wants_all rfl) (Or.inl rfl) (opnd_slot 2 3 rfl (by kernel_rfl)) rfl
      · exact owe_move rfl (wants_all rfl) (Or.inr rfl) (opnd_op 0 25 (by kernel_rfl) rfl) rfl
    intro B6 a6 W6 S6
    replace S6 : Sta w 26 [] [(2, ((NN (g.2)) w.heap.size)), (11, (Is (.bool false))), (4, (Is (.int .i64 (((g.1 : Nat) : Int) - 1)))), (3, ((NN (g.2)) w.heap.size)), (0, (Nx p n c xs))] B6 a6 W6 := S6
    refine wp_ret ?_
    exact end_one S6 rfl (res_tmp S6 0 2 rfl)

theorem g_rroot1 {x k : Nat} (hk : k ≤ 1048576) : ∀ w u, Nv x k u w → Calls Tryd.prog 17 #[u] w (Gives (NN (rt x)) w) := by
  rintro w u ⟨p, n, c, xs, rfl, h, rfl, hn⟩
  have h1 := bl_len h.dl
  exact rroot_w w p n c xs h (by omega) _ _ rfl rfl (by omega) (by omega)

theorem rt_le (X : Nat) : rt X ≤ X := by
  unfold rt
  split
  · rename_i h
    have := (Classical.choose_spec h).1
    generalize Classical.choose h = R at this ⊢
    rcases Nat.eq_zero_or_pos R with h0 | h0
    · omega
    · exact Nat.le_trans (Nat.le_mul_of_pos_right R h0) this
  · omega
theorem rt_len {w : World} {p : Option Addr} {n c : Nat} {xs : List Nat} (h : Sl w p n c xs) : (digs (rt (val xs))).length ≤ n := Nat.le_trans (digs_length_mono (rt_le _)) h.dl

set_option maxHeartbeats 400000 in
theorem zroot_w0 (w : World) (s : Bool) (p : Option Addr) (n c : Nat) (xs : List Nat) (h : Sl w p n c xs) (A : Int) (eA : sg s (val xs) = A) (hn : n ≤ 1048576) (hA : A.sign < 0) :
    Calls Tryd.prog 4 #[.agg #[.bool s, .slice p n c]] w (Gives (TWO (IS (.agg #[.bool false, .slice none 0 0])) (IS (.int .i64 21))) w) := by
  refine calls_sta (sl := [(0, (Zx s p n c xs))]) Tryd.func4 rfl Tryd.ntmps4 (by simp) (args_cons rfl (zx_has h) args_nil) ?_
  intro a0 S0
  refine wp_stmt_seq [.new (.box 24 (Zx s p n c xs)),
      .new (.box 24 (Is (.agg #[.bool false, .slice none 0 0]))),
      .val (Is (.int .i64 0))] [.inl 0, .inl 1] [.inl 2] follows S0 rfl (by kernel_rfl) ?_ ?_
  · refine ⟨⟨⟨trivial, ?_⟩, ?_⟩, ?_⟩
    · exact owe_box rfl (wants_all rfl) rfl (opnd_slot 0 0 rfl (by kernel_rfl)) rfl (fun ρ w h => box_int shp_zx ρ _ _ w h)
    · exact owe_new rfl (wants_all rfl) rfl rfl (fun ρ w => alloc_int ρ _ w)
    · exact owe_move rfl (wants_all rfl) (Or.inr rfl) (opnd_const _) rfl
  intro B1 a1 W1 S1
  replace S1 : Sta w 12 [(1, (.box 24 (Zx s p n c xs))), (2, (.box 24 (Is (.agg #[.bool false, .slice none 0 0]))))] [(3, (Is (.int .i64 0)))] B1 a1 W1 := S1
  refine wp_seq ?_
  refine wp_stmt_seq [.val (Zx s p n c xs),
      .val (Is (.int .i64 (A).sign)),
      .val (Is (.bool true))] [.inr 0, .inr 1] [.inl 2, .inr 0] follows S1 rfl (by kernel_rfl) ?_ ?_
  · refine ⟨⟨⟨trivial, ?_⟩, ?_⟩, ?_⟩
    · exact owe_load rfl (wants_all rfl) rfl (k := 0) rfl (by kernel_rfl) (loads_of strct_int shp_zx) rfl
    · exact owe_call1 rfl (wants_all rfl) rfl (opnd_op 0 4 (by kernel_rfl) rfl) (fresh_is _) rfl (fun args w => by go_simp) (fun w u h1 => g_zsign (by omega) w u ((zx_zv' eA (Nat.le_refl _)) _ _ h1))
    · exact owe_bin rfl (wants_all rfl) rfl (opnd_op 1 5 (by kernel_rfl) rfl) (opnd_const _) rfl (fun ρ w h1 h2 => by exact run_lss_int_t ρ _ _ _ w _ _ hA h1 h2)
  intro B2 a2 W2 S2
  replace S2 : Sta w 12 [(1, (.box 24 (Zx s p n c xs))), (2, (.box 24 (Is (.agg #[.bool false, .slice none 0 0]))))] [(6, (Is (.bool true))), (3, (Is (.int .i64 0)))] B2 a2 W2 := S2
  refine wp_cond_true (S2.bool 0 6 rfl) ?_
  refine wp_stmt_seq [.val (Is (.agg #[.bool false, .slice none 0 0])),
      .put (.inl 2) (.box 24 (Is (.agg #[.bool false, .slice none 0 0]))),
      .val (Is (.int .i64 21))] [.inr 0, .inr 1] [.inl 2, .inr 0] follows S2 rfl (by kernel_rfl) ?_ ?_
  · refine ⟨⟨⟨trivial, ?_⟩, ?_⟩, ?_⟩
    · exact owe_build_int rfl (wants_all rfl) rfl rfl
    · exact owe_set rfl (wants_all rfl) rfl (k := 1) rfl (by kernel_rfl) (opnd_op 0 7 (by kernel_rfl) rfl) (stores_of strct_int shp_z0 shp_z0) rfl
    · exact owe_move rfl (wants_all rfl) (Or.inr rfl) (opnd_const _) rfl
  intro B3 a3 W3 S3
  replace S3 : Sta w 12 [(1, (.box 24 (Zx s p n c xs))), (2, (.box 24 (Is (.agg #[.bool false, .slice none 0 0]))))] [(3, (Is (.int .i64 21))), (6, (Is (.bool true)))] B3 a3 W3 := S3
  refine wp_ret ?_
  refine thenR ?_
  exact end_two S3 rfl (res_cell S3 1 2 rfl strct_int shp_z0) (res_tmp S3 0 3 rfl)

set_option maxHeartbeats 400000 in
theorem zroot_w1 (w : World) (s : Bool) (p : Option Addr) (n c : Nat) (xs : List Nat) (h : Sl w p n c xs) (A : Int) (eA : sg s (val xs) = A) (hn : n ≤ 1048576) (hA : 0 ≤ A.sign) :
    Calls Tryd.prog 4 #[.agg #[.bool s, .slice p n c]] w (Gives (TWO (ZN (sg false (rt (val xs)))) (IS (.int .i64 0))) w) := by
  have drt : (digs (rt (val xs))).length ≤ n := rt_len h
  refine calls_sta (sl := [(0, (Zx s p n c xs))]) Tryd.func4 rfl Tryd.ntmps4 (by simp) (args_cons rfl (zx_has h) args_nil) ?_
  intro a0 S0
  refine wp_stmt_seq [.new (.box 24 (Zx s p n c xs)),
      .new (.box 24 (Is (.agg #[.bool false, .slice none 0 0]))),
      .val (Is (.int .i64 0))] [.inl 0, .inl 1] [.inl 2] follows S0 rfl (by kernel_rfl) ?_ ?_
  · refine ⟨⟨⟨trivial, ?_⟩, ?_⟩, ?_⟩
    · exact owe_box rfl (wants_all rfl) rfl (opnd_slot 0 0 rfl (by kernel_rfl)) rfl (fun ρ w h => box_int shp_zx ρ _ _ w h)
    · exact owe_new rfl (wants_all rfl) rfl rfl (fun ρ w => alloc_int ρ _ w)
    · exact owe_move rfl (wants_all rfl) (Or.inr rfl) (opnd_const _) rfl
  intro B1 a1 W1 S1
  replace S1 : Sta w 12 [(1, (.box 24 (Zx s p n c xs))), (2, (.box 24 (Is (.agg #[.bool false, .slice none 0 0]))))] [(3, (Is (.int .i64 0)))] B1 a1 W1 := S1
  refine wp_seq ?_
  refine wp_stmt_seq [.val (Zx s p n c xs),
      .val (Is (.int .i64 (A).sign)),
      .val (Is (.bool false))] [.inr 0, .inr 1] [.inl 2, .inr 0] follows S1 rfl (by kernel_rfl) ?_ ?_
  · refine ⟨⟨⟨trivial, ?_⟩, ?_⟩, ?_⟩
    · exact owe_load rfl (wants_all rfl) rfl (k := 0) rfl (by kernel_rfl) (loads_of strct_int shp_zx) rfl
    · exact owe_call1 rfl (wants_all rfl) rfl (opnd_op 0 4 (by kernel_rfl) rfl) (fresh_is _) rfl (fun args w => by go_simp) (fun w u h1 => g_zsign (by omega) w u ((zx_zv' eA (Nat.le_refl _)) _ _ h1))
    · exact owe_bin rfl (wants_all rfl) rfl (opnd_op 1 5 (by kernel_rfl) rfl) (opnd_const _) rfl (fun ρ w h1 h2 => by exact run_lss_int_f ρ _ _ _ w _ _ hA h1 h2)
  intro B2 a2 W2 S2
  replace S2 : Sta w 12 [(1, (.box 24 (Zx s p n c xs))), (2, (.box 24 (Is (.agg #[.bool false, .slice none 0 0]))))] [(6, (Is (.bool false))), (3, (Is (.int .i64 0)))] B2 a2 W2 := S2
  refine wp_cond_false (S2.bool 0 6 rfl) ?_
  refine wp_skip ?_
  refine thenN ?_
  refine wp_stmt_seq [.val (Part a2 1 1),
      .val (Nx p n c xs),
      .val ((NN (rt (val xs))) w.heap.size),
      .val ((ZN (sg false (rt (val xs)))) w.heap.size),
      .put (.inl 2) (.box 24 ((ZN (sg false (rt (val xs)))) w.heap.size)),
      .val (Is (.int .i64 0))] [.inr 0, .inr 1] [.inl 5, .inr 0] follows S2 rfl (by kernel_rfl) ?_ ?_
  · refine ⟨⟨⟨⟨⟨⟨trivial, ?_⟩, ?_⟩, ?_⟩, ?_⟩, ?_⟩, ?_⟩
    · exact owe_part rfl (wants_all rfl) rfl (k := 0) rfl (by kernel_rfl) rfl (fun ρ w b h => part_int1 ρ _ _ w b 0 h)
    · exact owe_pload rfl (wants_all rfl) rfl (opnd_op 0 8 (by kernel_rfl) rfl) (k := 0) rfl (by kernel_rfl) rfl (fun ρ w b u h1 h2 h3 => pload_mag zx_mag ρ _ _ w b u h1 h2 h3)
    · exact owe_call1 rfl (wants_all rfl) rfl (opnd_op 1 9 (by kernel_rfl) rfl) (fresh_nn _) rfl (fun args w => by go_simp) (fun w u h1 => g_root (by omega) w u ((nx_nv (Nat.le_refl _)) _ _ h1))
    · exact owe_callF2 rfl (wants_all rfl) rfl (opnd_const _) (opnd_op 2 10 (by kernel_rfl) rfl) rfl (fun args w => by go_simp) g_signed
    · exact owe_set rfl (wants_all rfl) rfl (k := 1) rfl (by kernel_rfl) (opnd_op 3 11 (by kernel_rfl) rfl) (stores_of strct_int shp_z0 shp_zn) rfl
    · exact owe_move rfl (wants_all rfl) (Or.inr rfl) (opnd_const _) rfl
  intro B3 a3 W3 S3
  replace S3 : Sta w 12 [(1, (.box 24 (Zx s p n c xs))), (2, (.box 24 ((ZN (sg false (rt (val xs)))) w.heap.size)))] [(3, (Is (.int .i64 0))), (6, (Is (.bool false)))] B3 a3 W3 := S3
  refine wp_ret ?_
  exact end_two S3 rfl (res_cell S3 1 2 rfl strct_int shp_zn) (res_tmp S3 0 3 rfl)

set_option maxHeartbeats 400000 in
theorem rroot_w0 (w : World) (s : Bool) (p : Option Addr) (n c : Nat) (xs : List Nat) (h : Sl w p n c xs) (A : Int) (eA : sg s (val xs) = A) (hn : n ≤ 1048576) (hA : A.sign < 0) :
    Calls Tryd.prog 6 #[.agg #[.bool s, .slice p n c]] w (Gives (TWO (IS (.agg #[.bool false, .slice none 0 0])) (IS (.int .i64 21))) w) := by
  refine calls_sta (sl := [(0, (Zx s p n c xs))]) Tryd.func6 rfl Tryd.ntmps6 (by simp) (args_cons rfl (zx_has h) args_nil) ?_
  intro a0 S0
  refine wp_stmt_seq [.new (.box 24 (Zx s p n c xs)),
      .new (.box 24 (Is (.agg #[.bool false, .slice none 0 0]))),
      .val (Is (.int .i64 0))] [.inl 0, .inl 1] [.inl 2] follows S0 rfl (by kernel_rfl) ?_ ?_
  · refine ⟨⟨⟨trivial, ?_⟩, ?_⟩, ?_⟩
    · exact owe_box rfl (wants_all rfl) rfl (opnd_slot 0 0 rfl (by kernel_rfl)) rfl (fun ρ w h => box_int shp_zx ρ _ _ w h)
    · exact owe_new rfl (wants_all rfl) rfl rfl (fun ρ w => alloc_int ρ _ w)
    · exact owe_move rfl (wants_all rfl) (Or.inr rfl) (opnd_const _) rfl
  intro B1 a1 W1 S1
  replace S1 : Sta w 12 [(1, (.box 24 (Zx s p n c xs))), (2, (.box 24 (Is (.agg #[.bool false, .slice none 0 0]))))] [(3, (Is (.int .i64 0)))] B1 a1 W1 := S1
  refine wp_seq ?_
  refine wp_stmt_seq [.val (Zx s p n c xs),
      .val (Is (.int .i64 (A).sign)),
      .val (Is (.bool true))] [.inr 0, .inr 1] [.inl 2, .inr 0] follows S1 rfl (by kernel_rfl) ?_ ?_
  · refine ⟨⟨⟨trivial, ?_⟩, ?_⟩, ?_⟩
    · exact owe_load rfl (wants_all rfl) rfl (k := 0) rfl (by kernel_rfl) (loads_of strct_int shp_zx) rfl
    · exact owe_call1 rfl (wants_all rfl) rfl (opnd_op 0 4 (by kernel_rfl) rfl) (fresh_is _) rfl (fun args w => by go_simp) (fun w u h1 => g_rsign (by omega) w u ((zx_zv' eA (Nat.le_refl _)) _ _ h1))
    · exact owe_bin rfl (wants_all rfl) rfl (opnd_op 1 5 (by kernel_rfl) rfl) (opnd_const _) rfl (fun ρ w h1 h2 => by exact run_lss_int_t ρ _ _ _ w _ _ hA h1 h2)
  intro B2 a2 W2 S2
  replace S2 : Sta w 12 [(1, (.box 24 (Zx s p n c xs))), (2, (.box 24 (Is (.agg #[.bool false, .slice none 0 0]))))] [(6, (Is (.bool true))), (3, (Is (.int .i64 0)))] B2 a2 W2 := S2
  refine wp_cond_true (S2.bool 0 6 rfl) ?_
  refine wp_stmt_seq [.val (Is (.agg #[.bool false, .slice none 0 0])),
      .put (.inl 2) (.box 24 (Is (.agg #[.bool false, .slice none 0 0]))),
      .val (Is (.int .i64 21))] [.inr 0, .inr 1] [.inl 2, .inr 0] follows S2 rfl (by kernel_rfl) ?_ ?_
  · refine ⟨⟨⟨trivial, ?_⟩, ?_⟩, ?_⟩
    · exact owe_build_int rfl (wants_all rfl) rfl rfl
    · exact owe_set rfl (wants_all rfl) rfl (k := 1) rfl (by kernel_rfl) (opnd_op 0 7 (by kernel_rfl) rfl) (stores_of strct_int shp_z0 shp_z0) rfl
    · exact owe_move rfl (wants_all rfl) (Or.inr rfl) (opnd_const _) rfl
  intro B3 a3 W3 S3
  replace S3 : Sta w 12 [(1, (.box 24 (Zx s p n c xs))), (2, (.box 24 (Is (.agg #[.bool false, .slice none 0 0]))))] [(3, (Is (.int .i64 21))), (6, (Is (.bool true)))] B3 a3 W3 := S3
  refine wp_ret ?_
  refine thenR ?_
  exact end_two S3 rfl (res_cell S3 1 2 rfl strct_int shp_z0) (res_tmp S3 0 3 rfl)

set_option maxHeartbeats 400000 in
theorem rroot_w1 (w : World) (s : Bool) (p : Option Addr) (n c : Nat) (xs : List Nat) (h : Sl w p n c xs) (A : Int) (eA : sg s (val xs) = A) (hn : n ≤ 1048576) (hA : 0 ≤ A.sign) :
    Calls Tryd.prog 6 #[.agg #[.bool s, .slice p n c]] w (Gives (TWO (ZN (sg false (rt (val xs)))) (IS (.int .i64 0))) w) := by
  have drt : (digs (rt (val xs))).length ≤ n := rt_len h
  refine calls_sta (sl := [(0, (Zx s p n c xs))]) Tryd.func6 rfl Tryd.ntmps6 (by simp) (args_cons rfl (zx_has h) args_nil) ?_
  intro a0 S0
  refine wp_stmt_seq [.new (.box 24 (Zx s p n c xs)),
      .new (.box 24 (Is (.agg #[.bool false, .slice none 0 0]))),
      .val (Is (.int .i64 0))] [.inl 0, .inl 1] [.inl 2] follows S0 rfl (by kernel_rfl) ?_ ?_
  · refine ⟨⟨⟨trivial, ?_⟩, ?_⟩, ?_⟩
    · exact owe_box rfl (wants_all rfl) rfl (opnd_slot 0 0 rfl (by kernel_rfl)) rfl (fun ρ w h => box_int shp_zx ρ _ _ w h)
    · exact owe_new rfl (wants_all rfl) rfl rfl (fun ρ w => alloc_int ρ _ w)
    · exact owe_move rfl (wants_all rfl) (Or.inr rfl) (opnd_const _) rfl
  intro B1 a1 W1 S1
  replace S1 : Sta w 12 [(1, (.box 24 (Zx s p n c xs))), (2, (.box 24 (Is (.agg #[.bool false, .slice none 0 0]))))] [(3, (Is (.int .i64 0)))] B1 a1 W1 := S1
  refine wp_seq ?_
  refine wp_stmt_seq [.val (Zx s p n c xs),
      .val (Is (.int .i64 (A).sign)),
      .val (Is (.bool false))] [.inr 0, .inr 1] [.inl 2, .inr 0] follows S1 rfl (by kernel_rfl) ?_ ?_
  · refine ⟨⟨⟨trivial, ?_⟩, ?_⟩, ?_⟩
    · exact owe_load rfl (wants_all rfl) rfl (k := 0) rfl (by kernel_rfl) (loads_of strct_int shp_zx) rfl
    · exact owe_call1 rfl (wants_all rfl) rfl (opnd_op 0 4 (by kernel_rfl) rfl) (fresh_is _) rfl (fun args w => by go_simp) (fun w u h1 => g_rsign (by omega) w u ((zx_zv' eA (Nat.le_refl _)) _ _ h1))
    · exact owe_bin rfl (wants_all rfl) rfl (opnd_op 1 5 (by kernel_rfl) rfl) (opnd_const _) rfl (fun ρ w h1 h2 => by exact run_lss_int_f ρ _ _ _ w _ _ hA h1 h2)
  intro B2 a2 W2 S2
  replace S2 : Sta w 12 [(1, (.box 24 (Zx s p n c xs))), (2, (.box 24 (Is (.agg #[.bool false, .slice none 0 0]))))] [(6, (Is (.bool false))), (3, (Is (.int .i64 0)))] B2 a2 W2 := S2
  refine wp_cond_false (S2.bool 0 6 rfl) ?_
  refine wp_skip ?_
  refine thenN ?_
  refine wp_stmt_seq [.val (Part a2 1 1),
      .val (Nx p n c xs),
      .val ((NN (rt (val xs))) w.heap.size),
      .val ((ZN (sg false (rt (val xs)))) w.heap.size),
      .put (.inl 2) (.box 24 ((ZN (sg false (rt (val xs)))) w.heap.size)),
      .val (Is (.int .i64 0))] [.inr 0, .inr 1] [.inl 5, .inr 0] follows S2 rfl (by kernel_rfl) ?_ ?_
  · refine ⟨⟨⟨⟨⟨⟨trivial, ?_⟩, ?_⟩, ?_⟩, ?_⟩, ?_⟩, ?_⟩
    · exact owe_part rfl (wants_all rfl) rfl (k := 0) rfl (by kernel_rfl) rfl (fun ρ w b h => part_int1 ρ _ _ w b 0 h)
    · exact owe_pload rfl (wants_all rfl) rfl (opnd_op 0 8 (by kernel_rfl) rfl) (k := 0) rfl (by kernel_rfl) rfl (fun ρ w b u h1 h2 h3 => pload_mag zx_mag ρ _ _ w b u h1 h2 h3)
    · exact owe_call1 rfl (wants_all rfl) rfl (opnd_op 1 9 (by kernel_rfl) rfl) (fresh_nn _) rfl (fun args w => by go_simp) (fun w u h1 => g_rroot1 (by omega) w u ((nx_nv (Nat.le_refl _)) _ _ h1))
    · exact owe_call2 rfl (wants_all rfl) rfl (opnd_const _) (opnd_op 2 10 (by kernel_rfl) rfl) (fresh_zn _) rfl (fun args w => by go_simp) (fun w u v h1 h2 => g_made (by omega) w u v h1 ((nn_nv drt) _ _ h2))
    · exact owe_set rfl (wants_all rfl) rfl (k := 1) rfl (by kernel_rfl) (opnd_op 3 11 (by kernel_rfl) rfl) (stores_of strct_int shp_z0 shp_zn) rfl
    · exact owe_move rfl (wants_all rfl) (Or.inr rfl) (opnd_const _) rfl
  intro B3 a3 W3 S3
  replace S3 : Sta w 12 [(1, (.box 24 (Zx s p n c xs))), (2, (.box 24 ((ZN (sg false (rt (val xs)))) w.heap.size)))] [(3, (Is (.int .i64 0))), (6, (Is (.bool false)))] B3 a3 W3 := S3
  refine wp_ret ?_
  exact end_two S3 rfl (res_cell S3 1 2 rfl strct_int shp_zn) (res_tmp S3 0 3 rfl)

/-- What Root says. -/
noncomputable def rtE (A : Int) : Int := if A.sign < 0 then 21 else 0
noncomputable def rtV (A : Int) : Int := if A.sign < 0 then 0 else sg false (rt A.natAbs)

theorem g_zroot {A : Int} {k : Nat} (hk : k ≤ 1048576) : ∀ w u, Zv A k u w → Calls Tryd.prog 4 #[u] w (Gives (TWO (ZN (rtV A)) (IS (.int .i64 (rtE A)))) w) := by
  rintro w u ⟨s, p, n, c, xs, rfl, h, rfl, hn⟩
  unfold rtV rtE
  by_cases hA : (sg s (val xs)).sign < 0
  · rw [if_pos hA, if_pos hA]
    exact Gives.two (zroot_w0 w s p n c xs h _ rfl (by omega) hA) zero_zn
  · rw [if_neg hA, if_neg hA, sg_abs]
    exact zroot_w1 w s p n c xs h _ rfl (by omega) (by omega)

theorem g_rroot {A : Int} {k : Nat} (hk : k ≤ 1048576) : ∀ w u, Zv A k u w → Calls Tryd.prog 6 #[u] w (Gives (TWO (ZN (rtV A)) (IS (.int .i64 (rtE A)))) w) := by
  rintro w u ⟨s, p, n, c, xs, rfl, h, rfl, hn⟩
  unfold rtV rtE
  by_cases hA : (sg s (val xs)).sign < 0
  · rw [if_pos hA, if_pos hA]
    exact Gives.two (rroot_w0 w s p n c xs h _ rfl (by omega) hA) zero_zn
  · rw [if_neg hA, if_neg hA, sg_abs]
    exact rroot_w1 w s p n c xs h _ rfl (by omega) (by omega)

set_option maxHeartbeats 400000 in
theorem zbits_w (w : World) (s : Bool) (p : Option Addr) (n c : Nat) (xs : List Nat) (h : Sl w p n c xs) (hn : n ≤ 1048576) :
    Calls Tryd.prog 8 #[.agg #[.bool s, .slice p n c]] w (Gives (IS (.int .i64 (Go.bitLen (val xs) : Nat))) w) := by
  refine calls_sta (sl := [(0, (Zx s p n c xs))]) Tryd.func8 rfl Tryd.ntmps8 (by simp) (args_cons rfl (zx_has h) args_nil) ?_
  intro a0 S0
  refine wp_stmt_seq [.new (.box 24 (Zx s p n c xs)),
      .val (Is (.int .i64 0))] [.inl 0] [.inl 1] follows S0 rfl (by kernel_rfl) ?_ ?_
  · refine ⟨⟨trivial, ?_⟩, ?_⟩
    · exact owe_box rfl (wants_all rfl) rfl (opnd_slot 0 0 rfl (by kernel_rfl)) rfl (fun ρ w h => box_int shp_zx ρ _ _ w h)
    · exact owe_move rfl (wants_all rfl) (Or.inr rfl) (opnd_const _) rfl
  intro B1 a1 W1 S1
  replace S1 : Sta w 6 [(1, (.box 24 (Zx s p n c xs)))] [(2, (Is (.int .i64 0)))] B1 a1 W1 := S1
  refine wp_stmt_seq [.val (Part a1 1 1),
      .val (Nx p n c xs),
      .val (Is (.int .i64 (Go.bitLen (val xs) : Nat))),
      .val (Is (.int .i64 (Go.bitLen (val xs) : Nat)))] [.inr 0] [.inl 3] follows S1 rfl (by kernel_rfl) ?_ ?_
  · refine ⟨⟨⟨⟨trivial, ?_⟩, ?_⟩, ?_⟩, ?_⟩
    · exact owe_part rfl (wants_all rfl) rfl (k := 0) rfl (by kernel_rfl) rfl (fun ρ w b h => part_int1 ρ _ _ w b 0 h)
    · exact owe_pload rfl (wants_all rfl) rfl (opnd_op 0 3 (by kernel_rfl) rfl) (k := 0) rfl (by kernel_rfl) rfl (fun ρ w b u h1 h2 h3 => pload_mag zx_mag ρ _ _ w b u h1 h2 h3)
    · exact owe_call1 rfl (wants_all rfl) rfl (opnd_op 1 4 (by kernel_rfl) rfl) (fresh_is _) rfl (fun args w => by go_simp) (fun w u h1 => g_bits (by omega) w u ((nx_nv (Nat.le_refl _)) _ _ h1))
    · exact owe_move rfl (wants_all rfl) (Or.inr rfl) (opnd_op 2 5 (by kernel_rfl) rfl) rfl
  intro B2 a2 W2 S2
  replace S2 : Sta w 6 [(1, (.box 24 (Zx s p n c xs)))] [(2, (Is (.int .i64 (Go.bitLen (val xs) : Nat))))] B2 a2 W2 := S2
  refine wp_ret ?_
  exact end_one S2 rfl (res_tmp S2 0 2 rfl)

theorem g_zbits {A : Int} {k : Nat} (hk : k ≤ 1048576) : ∀ w u, Zv A k u w → Calls Tryd.prog 8 #[u] w (Gives (IS (.int .i64 (Go.bitLen A.natAbs : Nat))) w) := by
  rintro w u ⟨s, p, n, c, xs, rfl, h, rfl, hn⟩
  rw [sg_abs]
  exact zbits_w w s p n c xs h (by omega)

set_option maxHeartbeats 400000 in
theorem rbits_w (w : World) (s : Bool) (p : Option Addr) (n c : Nat) (xs : List Nat) (h : Sl w p n c xs) (hn : n ≤ 1048576) :
    Calls Tryd.prog 9 #[.agg #[.bool s, .slice p n c]] w (Gives (IS (.int .i64 (Go.bitLen (val xs) : Nat))) w) := by
  refine calls_sta (sl := [(0, (Zx s p n c xs))]) Tryd.func9 rfl Tryd.ntmps9 (by simp) (args_cons rfl (zx_has h) args_nil) ?_
  intro a0 S0
  refine wp_stmt_seq [.new (.box 24 (Zx s p n c xs)),
      .val (Is (.int .i64 0))] [.inl 0] [.inl 1] follows S0 rfl (by kernel_rfl) ?_ ?_
  · refine ⟨⟨trivial, ?_⟩, ?_⟩
    · exact owe_box rfl (wants_all rfl) rfl (opnd_slot 0 0 rfl (by kernel_rfl)) rfl (fun ρ w h => box_int shp_zx ρ _ _ w h)
    · exact owe_move rfl (wants_all rfl) (Or.inr rfl) (opnd_const _) rfl
  intro B1 a1 W1 S1
  replace S1 : Sta w 6 [(1, (.box 24 (Zx s p n c xs)))] [(2, (Is (.int .i64 0)))] B1 a1 W1 := S1
  refine wp_stmt_seq [.val (Part a1 1 1),
      .val (Nx p n c xs),
      .val (Is (.int .i64 (Go.bitLen (val xs) : Nat))),
      .val (Is (.int .i64 (Go.bitLen (val xs) : Nat)))] [.inr 0] [.inl 3] follows S1 rfl (by kernel_rfl) ?_ ?_
  · refine ⟨⟨⟨⟨trivial, ?_⟩, ?_⟩, ?_⟩, ?_⟩
    · exact owe_part rfl (wants_all rfl) rfl (k := 0) rfl (by kernel_rfl) rfl (fun ρ w b h => part_int1 ρ _ _ w b 0 h)
    · exact owe_pload rfl (wants_all rfl) rfl (opnd_op 0 3 (by kernel_rfl) rfl) (k := 0) rfl (by kernel_rfl) rfl (fun ρ w b u h1 h2 h3 => pload_mag zx_mag ρ _ _ w b u h1 h2 h3)
    · exact owe_call1 rfl (wants_all rfl) rfl (opnd_op 1 4 (by kernel_rfl) rfl) (fresh_is _) rfl (fun args w => by go_simp) (fun w u h1 => g_rbits1 (by omega) w u ((nx_nv (Nat.le_refl _)) _ _ h1))
    · exact owe_move rfl (wants_all rfl) (Or.inr rfl) (opnd_op 2 5 (by kernel_rfl) rfl) rfl
  intro B2 a2 W2 S2
  replace S2 : Sta w 6 [(1, (.box 24 (Zx s p n c xs)))] [(2, (Is (.int .i64 (Go.bitLen (val xs) : Nat))))] B2 a2 W2 := S2
  refine wp_ret ?_
  exact end_one S2 rfl (res_tmp S2 0 2 rfl)

theorem g_rbits {A : Int} {k : Nat} (hk : k ≤ 1048576) : ∀ w u, Zv A k u w → Calls Tryd.prog 9 #[u] w (Gives (IS (.int .i64 (Go.bitLen A.natAbs : Nat))) w) := by
  rintro w u ⟨s, p, n, c, xs, rfl, h, rfl, hn⟩
  rw [sg_abs]
  exact rbits_w w s p n c xs h (by omega)

set_option maxHeartbeats 400000 in
theorem rtwo_w (w : World) (x : Nat) (hx : x ≤ 1125899906842) :
    Calls Tryd.prog 25 #[.int .i64 x] w (Gives (ZN (2 ^ x)) w) := by
  refine calls_sta (sl := [(0, (Is (.int .i64 x)))]) Tryd.func25 rfl Tryd.ntmps25 (by simp) (args_cons rfl (is_has _) args_nil) ?_
  intro a0 S0
  refine wp_stmt_seq [.new (.box 24 (Is (.agg #[.bool false, .slice none 0 0])))] [.inl 0] [.inr 0] follows S0 rfl (by kernel_rfl) ?_ ?_
  · refine ⟨trivial, ?_⟩
    · exact owe_new rfl (wants_all rfl) rfl rfl (fun ρ w => alloc_int ρ _ w)
  intro B1 a1 W1 S1
  replace S1 : Sta w 6 [(2, (.box 24 (Is (.agg #[.bool false, .slice none 0 0]))))] [(0, (Is (.int .i64 x)))] B1 a1 W1 := S1
  refine wp_stmt_seq [.val (Is (.int .i64 x)),
      .val ((NW (2 ^ x) (x / 32 + 1)) w.heap.size),
      .val ((ZN (2 ^ x)) w.heap.size),
      .put (.inl 2) (.box 24 ((ZN (2 ^ x)) w.heap.size))] [.inr 0] [] follows S1 rfl (by kernel_rfl) ?_ ?_
  · refine ⟨⟨⟨⟨trivial, ?_⟩, ?_⟩, ?_⟩, ?_⟩
    · exact owe_move rfl (wants_all rfl) (Or.inl rfl) (opnd_slot 0 0 rfl (by kernel_rfl)) rfl
    · exact owe_call1 rfl (wants_all rfl) rfl (opnd_op 0 3 (by kernel_rfl) rfl) (fresh_nw _ _) rfl (fun args w => by go_simp) (g_rtwo1 (by omega))
    · exact owe_call2 rfl (wants_all rfl) rfl (opnd_const _) (opnd_op 1 4 (by kernel_rfl) rfl) (fresh_zn _) rfl (fun args w => by go_simp) (fun w u0 u1 h0 h1 => Gives.cast ((fun w u v h1 h2 => g_made (by omega) w u v h1 (nw_nv _ _ h2)) w u0 u1 h0 h1) (by simp [sg]))
    · exact owe_set rfl (wants_all rfl) rfl (k := 0) rfl (by kernel_rfl) (opnd_op 2 5 (by kernel_rfl) rfl) (stores_of strct_int shp_z0 shp_zn) rfl
  intro B2 a2 W2 S2
  replace S2 : Sta w 6 [(2, (.box 24 ((ZN (2 ^ x)) w.heap.size)))] [] B2 a2 W2 := S2
  refine wp_ret ?_
  exact end_one S2 rfl (res_cell S2 0 2 rfl strct_int shp_zn)

theorem g_rtwoN {x : Nat} (hx : x ≤ 1125899906842) : ∀ w u, Is (.int .i64 (x : Nat)) u w → Calls Tryd.prog 25 #[u] w (Gives (ZN (2 ^ x)) w) := by
  rintro w u e
  obtain rfl : u = _ := e
  exact rtwo_w w x hx

set_option maxHeartbeats 400000 in
theorem ztop_true (w : World) (s : Bool) (p : Option Addr) (n c : Nat) (xs : List Nat) (h : Sl w p n c xs) (A : Int) (eA : sg s (val xs) = A) (hn : n ≤ 1048576) (hT : T32 w) (bl e M : Nat) (hbl : Go.bitLen A.natAbs = bl) (hbb : bl ≤ 33554432) (he : (bl ≤ 53 ∧ e = 0) ∨ (53 ≤ bl ∧ e = bl - 53)) (hM : val xs / 2 ^ ((e : Nat) : Int).toNat = M) (hM2 : (digs M).length ≤ 2) (hI : ((e : Nat) : Int) ≤ ((tz (val xs) : Nat) : Int)) :
    Calls Tryd.prog 10 #[.agg #[.bool s, .slice p n c]] w (Gives (THREE (IS (.int .u64 M)) (IS (.int .i64 e)) (IS (.bool true))) w) := by
  refine calls_sta (sl := [(0, (Zx s p n c xs))]) Tryd.func10 rfl Tryd.ntmps10 (by simp) (args_cons rfl (zx_has h) args_nil) ?_
  intro a0 S0
  replace S0 : Sta w 27 [] [(0, (Zx s p n c xs)), (0, TB)] (fun _ => False) a0 w := S0.more 0 (tb_has hT)
  refine wp_stmt_seq [.new (.box 24 (Zx s p n c xs)),
      .val (Is (.int .u64 0)),
      .val (Is (.int .i64 0)),
      .val (Is (.bool false))] [.inl 0] [.inl 1, .inl 2, .inl 3, .inr 1] follows S0 rfl (by kernel_rfl) ?_ ?_
  · refine ⟨⟨⟨⟨trivial, ?_⟩, ?_⟩, ?_⟩, ?_⟩
    · exact owe_box rfl (wants_all rfl) rfl (opnd_slot 0 0 rfl (by kernel_rfl)) rfl (fun ρ w h => box_int shp_zx ρ _ _ w h)
    · exact owe_move rfl (wants_all rfl) (Or.inr rfl) (opnd_const _) rfl
    · exact owe_move rfl (wants_all rfl) (Or.inr rfl) (opnd_const _) rfl
    · exact owe_move rfl (wants_all rfl) (Or.inr rfl) (opnd_const _) rfl
  intro B1 a1 W1 S1
  replace S1 : Sta w 27 [(1, (.box 24 (Zx s p n c xs)))] [(2, (Is (.int .u64 0))), (3, (Is (.int .i64 0))), (4, (Is (.bool false))), (0, TB)] B1 a1 W1 := S1
  refine wp_stmt_seq [.val (Zx s p n c xs),
      .val (Is (.int .i64 bl)),
      .val (Is (.int .i64 ((bl : Int) - 53))),
      .val (Is (.int .i64 e)),
      .val (Is (.int .i64 e))] [.inr 0] [.inl 4, .inr 0, .inr 1, .inr 2, .inr 3] follows S1 rfl (by kernel_rfl) ?_ ?_
  · refine ⟨⟨⟨⟨⟨trivial, ?_⟩, ?_⟩, ?_⟩, ?_⟩, ?_⟩
    · exact owe_load rfl (wants_all rfl) rfl (k := 0) rfl (by kernel_rfl) (loads_of strct_int shp_zx) rfl
    · exact owe_call1 rfl (wants_all rfl) rfl (opnd_op 0 8 (by kernel_rfl) rfl) (fresh_is _) rfl (fun args w => by go_simp) (fun w u0 h0 => Gives.cast ((fun w u h1 => g_zbits (by omega) w u ((zx_zv' eA (Nat.le_refl _)) _ _ h1)) w u0 h0) (by rw [hbl]))
    · exact owe_bin rfl (wants_all rfl) rfl (opnd_op 1 9 (by kernel_rfl) rfl) (opnd_const _) rfl (fun ρ w h1 h2 => by exact run_sub_int ρ _ _ _ w _ _ _ ⟨rfl, by omega, by omega⟩ h1 h2)
    · exact owe_max rfl (wants_all rfl) rfl (opnd_const _) (opnd_op 2 10 (by kernel_rfl) rfl) rfl (fun ρ w h1 h2 => run_max_int ρ _ _ _ w _ _ _ (by omega) h1 h2)
    · exact owe_move rfl (wants_all rfl) (Or.inr rfl) (opnd_op 3 11 (by kernel_rfl) rfl) rfl
  intro B2 a2 W2 S2
  replace S2 : Sta w 27 [(1, (.box 24 (Zx s p n c xs)))] [(5, (Is (.int .i64 e))), (2, (Is (.int .u64 0))), (3, (Is (.int .i64 0))), (4, (Is (.bool false))), (0, TB)] B2 a2 W2 := S2
  refine wp_stmt_seq [.val (Part a2 1 1),
      .val (Nx p n c xs),
      .val (Is (.int .i64 e)),
      .val ((TWO (NN (M)) (IS (.int .i64 0))) w.heap.size),
      .val ((TWO (NN (M)) (IS (.int .i64 0))) w.heap.size),
      .val ((NN (M)) w.heap.size),
      .val (Is (.int .i64 0)),
      .val ((NN (M)) w.heap.size),
      .val (Is (.int .i64 0))] [.inr 0] [.inl 7, .inr 0, .inr 1, .inr 2, .inr 3, .inr 4] follows S2 rfl (by kernel_rfl) ?_ ?_
  · refine ⟨⟨⟨⟨⟨⟨⟨⟨⟨trivial, ?_⟩, ?_⟩, ?_⟩, ?_⟩, ?_⟩, ?_⟩, ?_⟩, ?_⟩, ?_⟩
    · exact owe_part rfl (wants_all rfl) rfl (k := 0) rfl (by kernel_rfl) rfl (fun ρ w b h => part_int1 ρ _ _ w b 0 h)
    · exact owe_pload rfl (wants_all rfl) rfl (opnd_op 0 13 (by kernel_rfl) rfl) (k := 0) rfl (by kernel_rfl) rfl (fun ρ w b u h1 h2 h3 => pload_mag zx_mag ρ _ _ w b u h1 h2 h3)
    · exact owe_move rfl (wants_all rfl) (Or.inl rfl) (opnd_slot 0 5 rfl (by kernel_rfl)) rfl
    · exact owe_call2 rfl (wants_all rfl) rfl (opnd_op 1 14 (by kernel_rfl) rfl) (opnd_op 2 15 (by kernel_rfl) rfl) (fresh_two (fresh_nn _) (fresh_is _)) rfl (fun args w => by go_simp) (fun w u0 u1 h0 h1 => Gives.cast ((fun w u v h1 h2 => g_shr (z := ((e : Nat) : Int)) (by omega) (by omega) (by omega) w u v ((nx_nv (Nat.le_refl _)) _ _ h1) h2) w u0 u1 h0 h1) (by rw [hM]))
    · exact owe_move rfl (wants_all rfl) (Or.inl rfl) (opnd_op 3 16 (by kernel_rfl) rfl) rfl
    · exact owe_ext2 rfl (wants_all rfl) rfl (opnd_op 4 12 (by kernel_rfl) rfl) (Or.inl ⟨rfl, rfl⟩) rfl
    · exact owe_ext2 rfl (wants_all rfl) rfl (opnd_op 4 12 (by kernel_rfl) rfl) (Or.inr ⟨rfl, rfl⟩) rfl
    · exact owe_move rfl (wants_all rfl) (Or.inr rfl) (opnd_op 5 17 (by kernel_rfl) rfl) rfl
    · exact owe_move rfl (wants_all rfl) (Or.inr rfl) (opnd_op 6 18 (by kernel_rfl) rfl) rfl
  intro B3 a3 W3 S3
  replace S3 : Sta w 27 [(1, (.box 24 (Zx s p n c xs)))] [(6, ((NN (M)) w.heap.size)), (5, (Is (.int .i64 e))), (2, (Is (.int .u64 0))), (3, (Is (.int .i64 0))), (4, (Is (.bool false))), (0, TB)] B3 a3 W3 := S3
  refine wp_stmt_seq [.val ((NN (M)) w.heap.size),
      .val (Is (.int .u64 M)),
      .val (Is (.int .i64 e)),
      .val (Part a3 1 1),
      .val (Nx p n c xs),
      .val (Is (.int .i64 (tz (val xs) : Nat))),
      .val (Is (.int .i64 e)),
      .val (Is (.bool true)),
      .val (Is (.int .u64 M)),
      .val (Is (.int .i64 e)),
      .val (Is (.bool true))] [.inr 0] [.inl 8, .inl 9, .inl 10, .inr 1, .inr 5] follows S3 rfl (by kernel_rfl) ?_ ?_
  · refine ⟨⟨⟨⟨⟨⟨⟨⟨⟨⟨⟨trivial, ?_⟩, ?_⟩, ?_⟩, ?_⟩, ?_⟩, ?_⟩, ?_⟩, ?_⟩, ?_⟩, ?_⟩, ?_⟩
    · exact owe_move rfl (wants_all rfl) (Or.inl rfl) (opnd_slot 0 6 rfl (by kernel_rfl)) rfl
    · exact owe_call1 rfl (wants_all rfl) rfl (opnd_op 0 19 (by kernel_rfl) rfl) (fresh_is _) rfl (fun args w => by go_simp) (fun w u h1 => g_word (by omega) hM2 w u ((nn_nv hM2) _ _ h1))
    · exact owe_move rfl (wants_all rfl) (Or.inl rfl) (opnd_slot 1 5 rfl (by kernel_rfl)) rfl
    · exact owe_part rfl (wants_all rfl) rfl (k := 0) rfl (by kernel_rfl) rfl (fun ρ w b h => part_int1 ρ _ _ w b 0 h)
    · exact owe_pload rfl (wants_all rfl) rfl (opnd_op 3 22 (by kernel_rfl) rfl) (k := 0) rfl (by kernel_rfl) rfl (fun ρ w b u h1 h2 h3 => pload_mag zx_mag ρ _ _ w b u h1 h2 h3)
    · exact owe_call1T rfl (wants_all rfl) rfl (opnd_op 4 23 (by kernel_rfl) rfl) (opnd_slot 5 0 rfl (by kernel_rfl)) (fresh_is _) rfl (fun args w => by go_simp) (fun w u hT h1 => g_noughts (by omega) w u hT ((nx_nv (Nat.le_refl _)) _ _ h1))
    · exact owe_move rfl (wants_all rfl) (Or.inl rfl) (opnd_slot 1 5 rfl (by kernel_rfl)) rfl
    · exact owe_bin rfl (wants_all rfl) rfl (opnd_op 5 24 (by kernel_rfl) rfl) (opnd_op 6 25 (by kernel_rfl) rfl) rfl (fun ρ w h1 h2 => by exact run_geq_int_t ρ _ _ _ w _ _ hI h1 h2)
    · exact owe_move rfl (wants_all rfl) (Or.inr rfl) (opnd_op 1 20 (by kernel_rfl) rfl) rfl
    · exact owe_move rfl (wants_all rfl) (Or.inr rfl) (opnd_op 2 21 (by kernel_rfl) rfl) rfl
    · exact owe_move rfl (wants_all rfl) (Or.inr rfl) (opnd_op 7 26 (by kernel_rfl) rfl) rfl
  intro B4 a4 W4 S4
  replace S4 : Sta w 27 [(1, (.box 24 (Zx s p n c xs)))] [(2, (Is (.int .u64 M))), (3, (Is (.int .i64 e))), (4, (Is (.bool true))), (5, (Is (.int .i64 e))), (0, TB)] B4 a4 W4 := S4
  refine wp_ret ?_
  exact end_three S4 rfl (res_tmp S4 0 2 rfl) (res_tmp S4 1 3 rfl) (res_tmp S4 2 4 rfl)

set_option maxHeartbeats 400000 in
theorem ztop_false (w : World) (s : Bool) (p : Option Addr) (n c : Nat) (xs : List Nat) (h : Sl w p n c xs) (A : Int) (eA : sg s (val xs) = A) (hn : n ≤ 1048576) (hT : T32 w) (bl e M : Nat) (hbl : Go.bitLen A.natAbs = bl) (hbb : bl ≤ 33554432) (he : (bl ≤ 53 ∧ e = 0) ∨ (53 ≤ bl ∧ e = bl - 53)) (hM : val xs / 2 ^ ((e : Nat) : Int).toNat = M) (hM2 : (digs M).length ≤ 2) (hI : ((tz (val xs) : Nat) : Int) < ((e : Nat) : Int)) :
    Calls Tryd.prog 10 #[.agg #[.bool s, .slice p n c]] w (Gives (THREE (IS (.int .u64 M)) (IS (.int .i64 e)) (IS (.bool false))) w) := by
  refine calls_sta (sl := [(0, (Zx s p n c xs))]) Tryd.func10 rfl Tryd.ntmps10 (by simp) (args_cons rfl (zx_has h) args_nil) ?_
  intro a0 S0
  replace S0 : Sta w 27 [] [(0, (Zx s p n c xs)), (0, TB)] (fun _ => False) a0 w := S0.more 0 (tb_has hT)
  refine wp_stmt_seq [.new (.box 24 (Zx s p n c xs)),
      .val (Is (.int .u64 0)),
      .val (Is (.int .i64 0)),
      .val (Is (.bool false))] [.inl 0] [.inl 1, .inl 2, .inl 3, .inr 1] follows S0 rfl (by kernel_rfl) ?_ ?_
  · refine ⟨⟨⟨⟨trivial, ?_⟩, ?_⟩, ?_⟩, ?_⟩
    · exact owe_box rfl (wants_all rfl) rfl (opnd_slot 0 0 rfl (by kernel_rfl)) rfl (fun ρ w h => box_int shp_zx ρ _ _ w h)
    · exact owe_move rfl (wants_all rfl) (Or.inr rfl) (opnd_const _) rfl
    · exact owe_move rfl (wants_all rfl) (Or.inr rfl) (opnd_const _) rfl
    · exact owe_move rfl (wants_all rfl) (Or.inr rfl) (opnd_const _) rfl
  intro B1 a1 W1 S1
  replace S1 : Sta w 27 [(1, (.box 24 (Zx s p n c xs)))] [(2, (Is (.int .u64 0))), (3, (Is (.int .i64 0))), (4, (Is (.bool false))), (0, TB)] B1 a1 W1 := S1
  refine wp_stmt_seq [.val (Zx s p n c xs),
      .val (Is (.int .i64 bl)),
      .val (Is (.int .i64 ((bl : Int) - 53))),
      .val (Is (.int .i64 e)),
      .val (Is (.int .i64 e))] [.inr 0] [.inl 4, .inr 0, .inr 1, .inr 2, .inr 3] follows S1 rfl (by kernel_rfl) ?_ ?_
  · refine ⟨⟨⟨⟨⟨trivial, ?_⟩, ?_⟩, ?_⟩, ?_⟩, ?_⟩
    · exact owe_load rfl (wants_all rfl) rfl (k := 0) rfl (by kernel_rfl) (loads_of strct_int shp_zx) rfl
    · exact owe_call1 rfl (wants_all rfl) rfl (opnd_op 0 8 (by kernel_rfl) rfl) (fresh_is _) rfl (fun args w => by go_simp) (fun w u0 h0 => Gives.cast ((fun w u h1 => g_zbits (by omega) w u ((zx_zv' eA (Nat.le_refl _)) _ _ h1)) w u0 h0) (by rw [hbl]))
    · exact owe_bin rfl (wants_all rfl) rfl (opnd_op 1 9 (by kernel_rfl) rfl) (opnd_const _) rfl (fun ρ w h1 h2 => by exact run_sub_int ρ _ _ _ w _ _ _ ⟨rfl, by omega, by omega⟩ h1 h2)
    · exact owe_max rfl (wants_all rfl) rfl (opnd_const _) (opnd_op 2 10 (by kernel_rfl) rfl) rfl (fun ρ w h1 h2 => run_max_int ρ _ _ _ w _ _ _ (by omega) h1 h2)
    · exact owe_move rfl (wants_all rfl) (Or.inr rfl) (opnd_op 3 11 (by kernel_rfl) rfl) rfl
  intro B2 a2 W2 S2
  replace S2 : Sta w 27 [(1, (.box 24 (Zx s p n c xs)))] [(5, (Is (.int .i64 e))), (2, (Is (.int .u64 0))), (3, (Is (.int .i64 0))), (4, (Is (.bool false))), (0, TB)] B2 a2 W2 := S2
  refine wp_stmt_seq [.val (Part a2 1 1),
      .val (Nx p n c xs),
      .val (Is (.int .i64 e)),
      .val ((TWO (NN (M)) (IS (.int .i64 0))) w.heap.size),
      .val ((TWO (NN (M)) (IS (.int .i64 0))) w.heap.size),
      .val ((NN (M)) w.heap.size),
      .val (Is (.int .i64 0)),
      .val ((NN (M)) w.heap.size),
      .val (Is (.int .i64 0))] [.inr 0] [.inl 7, .inr 0, .inr 1, .inr 2, .inr 3, .inr 4] follows S2 rfl (by kernel_rfl) ?_ ?_
  · refine ⟨⟨⟨⟨⟨⟨⟨⟨⟨trivial, ?_⟩, ?_⟩, ?_⟩, ?_⟩, ?_⟩, ?_⟩, ?_⟩, ?_⟩, ?_⟩
    · exact owe_part rfl (wants_all rfl) rfl (k := 0) rfl (by kernel_rfl) rfl (fun ρ w b h => part_int1 ρ _ _ w b 0 h)
    · exact owe_pload rfl (wants_all rfl) rfl (opnd_op 0 13 (by kernel_rfl) rfl) (k := 0) rfl (by kernel_rfl) rfl (fun ρ w b u h1 h2 h3 => pload_mag zx_mag ρ _ _ w b u h1 h2 h3)
    · exact owe_move rfl (wants_all rfl) (Or.inl rfl) (opnd_slot 0 5 rfl (by kernel_rfl)) rfl
    · exact owe_call2 rfl (wants_all rfl) rfl (opnd_op 1 14 (by kernel_rfl) rfl) (opnd_op 2 15 (by kernel_rfl) rfl) (fresh_two (fresh_nn _) (fresh_is _)) rfl (fun args w => by go_simp) (fun w u0 u1 h0 h1 => Gives.cast ((fun w u v h1 h2 => g_shr (z := ((e : Nat) : Int)) (by omega) (by omega) (by omega) w u v ((nx_nv (Nat.le_refl _)) _ _ h1) h2) w u0 u1 h0 h1) (by rw [hM]))
    · exact owe_move rfl (wants_all rfl) (Or.inl rfl) (opnd_op 3 16 (by kernel_rfl) rfl) rfl
    · exact owe_ext2 rfl (wants_all rfl) rfl (opnd_op 4 12 (by kernel_rfl) rfl) (Or.inl ⟨rfl, rfl⟩) rfl
    · exact owe_ext2 rfl (wants_all rfl) rfl (opnd_op 4 12 (by kernel_rfl) rfl) (Or.inr ⟨rfl, rfl⟩) rfl
    · exact owe_move rfl (wants_all rfl) (Or.inr rfl) (opnd_op 5 17 (by kernel_rfl) rfl) rfl
    · exact owe_move rfl (wants_all rfl) (Or.inr rfl) (opnd_op 6 18 (by kernel_rfl) rfl) rfl
  intro B3 a3 W3 S3
  replace S3 : Sta w 27 [(1, (.box 24 (Zx s p n c xs)))] [(6, ((NN (M)) w.heap.size)), (5, (Is (.int .i64 e))), (2, (Is (.int .u64 0))), (3, (Is (.int .i64 0))), (4, (Is (.bool false))), (0, TB)] B3 a3 W3 := S3
  refine wp_stmt_seq [.val ((NN (M)) w.heap.size),
      .val (Is (.int .u64 M)),
      .val (Is (.int .i64 e)),
      .val (Part a3 1 1),
      .val (Nx p n c xs),
      .val (Is (.int .i64 (tz (val xs) : Nat))),
      .val (Is (.int .i64 e)),
      .val (Is (.bool false)),
      .val (Is (.int .u64 M)),
      .val (Is (.int .i64 e)),
      .val (Is (.bool false))] [.inr 0] [.inl 8, .inl 9, .inl 10, .inr 1, .inr 5] follows S3 rfl (by kernel_rfl) ?_ ?_
  · refine ⟨⟨⟨⟨⟨⟨⟨⟨⟨⟨⟨trivial, ?_⟩, ?_⟩, ?_⟩, ?_⟩, ?_⟩, ?_⟩, ?_⟩, ?_⟩, ?_⟩, ?_⟩, ?_⟩
    · exact owe_move rfl (wants_all rfl) (Or.inl rfl) (opnd_slot 0 6 rfl (by kernel_rfl)) rfl
    · exact owe_call1 rfl (wants_all rfl) rfl (opnd_op 0 19 (by kernel_rfl) rfl) (fresh_is _) rfl (fun args w => by go_simp) (fun w u h1 => g_word (by omega) hM2 w u ((nn_nv hM2) _ _ h1))
    · exact owe_move rfl (wants_all rfl) (Or.inl rfl) (opnd_slot 1 5 rfl (by kernel_rfl)) rfl
    · exact owe_part rfl (wants_all rfl) rfl (k := 0) rfl (by kernel_rfl) rfl (fun ρ w b h => part_int1 ρ _ _ w b 0 h)
    · exact owe_pload rfl (wants_all rfl) rfl (opnd_op 3 22 (by kernel_rfl) rfl) (k := 0) rfl (by kernel_rfl) rfl (fun ρ w b u h1 h2 h3 => pload_mag zx_mag ρ _ _ w b u h1 h2 h3)
    · exact owe_call1T rfl (wants_all rfl) rfl (opnd_op 4 23 (by kernel_rfl) rfl) (opnd_slot 5 0 rfl (by kernel_rfl)) (fresh_is _) rfl (fun args w => by go_simp) (fun w u hT h1 => g_noughts (by omega) w u hT ((nx_nv (Nat.le_refl _)) _ _ h1))
    · exact owe_move rfl (wants_all rfl) (Or.inl rfl) (opnd_slot 1 5 rfl (by kernel_rfl)) rfl
    · exact owe_bin rfl (wants_all rfl) rfl (opnd_op 5 24 (by kernel_rfl) rfl) (opnd_op 6 25 (by kernel_rfl) rfl) rfl (fun ρ w h1 h2 => by exact run_geq_int_f ρ _ _ _ w _ _ hI h1 h2)
    · exact owe_move rfl (wants_all rfl) (Or.inr rfl) (opnd_op 1 20 (by kernel_rfl) rfl) rfl
    · exact owe_move rfl (wants_all rfl) (Or.inr rfl) (opnd_op 2 21 (by kernel_rfl) rfl) rfl
    · exact owe_move rfl (wants_all rfl) (Or.inr rfl) (opnd_op 7 26 (by kernel_rfl) rfl) rfl
  intro B4 a4 W4 S4
  replace S4 : Sta w 27 [(1, (.box 24 (Zx s p n c xs)))] [(2, (Is (.int .u64 M))), (3, (Is (.int .i64 e))), (4, (Is (.bool false))), (5, (Is (.int .i64 e))), (0, TB)] B4 a4 W4 := S4
  refine wp_ret ?_
  exact end_three S4 rfl (res_tmp S4 0 2 rfl) (res_tmp S4 1 3 rfl) (res_tmp S4 2 4 rfl)

set_option maxHeartbeats 400000 in
theorem rtop_0true (w : World) (s : Bool) (p : Option Addr) (n c : Nat) (xs : List Nat) (h : Sl w p n c xs) (A : Int) (eA : sg s (val xs) = A) (hn : n ≤ 1048576) (bl e M : Nat) (R : Int) (hbl : Go.bitLen A.natAbs = bl) (hbb : bl ≤ 33554432) (he : bl ≤ 53) (he2 : e = 0) (hB : (2 : Int) ^ e ≠ 0) (hF : fl ((A).natAbs : Int) (2 ^ e) = (M : Int)) (hR : rm ((A).natAbs : Int) (2 ^ e) = R) (hM2 : (digs ((M : Int)).natAbs).length ≤ 2) (dR : (digs R.natAbs).length ≤ 1048577) (hsV : smV (M : Int) = (M : Int)) (hsK : smK (M : Int) = true) (hM9 : M < 9223372036854775808) (hI : R.sign = 0) :
    Calls Tryd.prog 11 #[.agg #[.bool s, .slice p n c]] w (Gives (THREE (IS (.int .u64 M)) (IS (.int .i64 0)) (IS (.bool true))) w) := by
  have dA : (digs ((A).natAbs : Int).natAbs).length ≤ n := by rw [Int.natAbs_natCast, ← eA]; exact sg_dl h
  have d2 : (digs ((2 : Int) ^ e).natAbs).length ≤ 1048577 := Nat.le_trans two_len' (by omega)
  refine calls_sta (sl := [(0, (Zx s p n c xs))]) Tryd.func11 rfl Tryd.ntmps11 (by simp) (args_cons rfl (zx_has h) args_nil) ?_
  intro a0 S0
  refine wp_stmt_seq [.new (.box 24 (Zx s p n c xs)),
      .val (Is (.int .u64 0)),
      .val (Is (.int .i64 0)),
      .val (Is (.bool false))] [.inl 0] [.inl 1, .inl 2, .inl 3] follows S0 rfl (by kernel_rfl) ?_ ?_
  · refine ⟨⟨⟨⟨trivial, ?_⟩, ?_⟩, ?_⟩, ?_⟩
    · exact owe_box rfl (wants_all rfl) rfl (opnd_slot 0 0 rfl (by kernel_rfl)) rfl (fun ρ w h => box_int shp_zx ρ _ _ w h)
    · exact owe_move rfl (wants_all rfl) (Or.inr rfl) (opnd_const _) rfl
    · exact owe_move rfl (wants_all rfl) (Or.inr rfl) (opnd_const _) rfl
    · exact owe_move rfl (wants_all rfl) (Or.inr rfl) (opnd_const _) rfl
  intro B1 a1 W1 S1
  replace S1 : Sta w 35 [(1, (.box 24 (Zx s p n c xs)))] [(2, (Is (.int .u64 0))), (3, (Is (.int .i64 0))), (4, (Is (.bool false)))] B1 a1 W1 := S1
  refine wp_stmt_seq [.val (Is (.int .i64 0))] [.inr 0] [.inl 0, .inr 0, .inr 1, .inr 2] follows S1 rfl (by kernel_rfl) ?_ ?_
  · refine ⟨trivial, ?_⟩
    · exact owe_move rfl (wants_all rfl) (Or.inr rfl) (opnd_const _) rfl
  intro B2 a2 W2 S2
  replace S2 : Sta w 35 [(1, (.box 24 (Zx s p n c xs)))] [(5, (Is (.int .i64 0))), (2, (Is (.int .u64 0))), (3, (Is (.int .i64 0))), (4, (Is (.bool false)))] B2 a2 W2 := S2
  refine wp_seq ?_
  refine wp_stmt_seq [.val (Zx s p n c xs),
      .val (Is (.int .i64 bl)),
      .val (Is (.bool false))] [.inr 0] [.inl 2, .inr 0, .inr 1, .inr 2, .inr 3] follows S2 rfl (by kernel_rfl) ?_ ?_
  · refine ⟨⟨⟨trivial, ?_⟩, ?_⟩, ?_⟩
    · exact owe_load rfl (wants_all rfl) rfl (k := 0) rfl (by kernel_rfl) (loads_of strct_int shp_zx) rfl
    · exact owe_call1 rfl (wants_all rfl) rfl (opnd_op 0 10 (by kernel_rfl) rfl) (fresh_is _) rfl (fun args w => by go_simp) (fun w u0 h0 => Gives.cast ((fun w u h1 => g_rbits (by omega) w u ((zx_zv' eA (Nat.le_refl _)) _ _ h1)) w u0 h0) (by rw [hbl]))
    · exact owe_bin rfl (wants_all rfl) rfl (opnd_op 1 11 (by kernel_rfl) rfl) (opnd_const _) rfl (fun ρ w h1 h2 => by exact run_gtr_int_f ρ _ _ _ w _ _ (by omega) h1 h2)
  intro B3 a3 W3 S3
  replace S3 : Sta w 35 [(1, (.box 24 (Zx s p n c xs)))] [(12, (Is (.bool false))), (5, (Is (.int .i64 0))), (2, (Is (.int .u64 0))), (3, (Is (.int .i64 0))), (4, (Is (.bool false)))] B3 a3 W3 := S3
  refine wp_cond_false (S3.bool 0 12 rfl) ?_
  refine wp_skip ?_
  refine thenN ?_
  refine wp_stmt_seq [.val (Zx s p n c xs),
      .val ((ZN (((A).natAbs : Int))) w.heap.size),
      .val (Is (.int .i64 0)),
      .val ((ZN (2 ^ e)) w.heap.size),
      .val ((TWO (ZN ((M : Int))) (ZN (R))) w.heap.size),
      .val ((TWO (ZN ((M : Int))) (ZN (R))) w.heap.size),
      .val ((ZN ((M : Int))) w.heap.size),
      .val ((ZN (R)) w.heap.size),
      .new (.box 24 (Is (.agg #[.bool false, .slice none 0 0]))),
      .new (.box 24 (Is (.agg #[.bool false, .slice none 0 0]))),
      .put (.inr 8) (.box 24 ((ZN ((M : Int))) w.heap.size)),
      .put (.inr 9) (.box 24 ((ZN (R)) w.heap.size))] [.inr 0, .inl 8, .inl 9] [.inr 0, .inr 1, .inr 2, .inr 3, .inr 4] follows S3 rfl (by kernel_rfl) ?_ ?_
  · refine ⟨⟨⟨⟨⟨⟨⟨⟨⟨⟨⟨⟨trivial, ?_⟩, ?_⟩, ?_⟩, ?_⟩, ?_⟩, ?_⟩, ?_⟩, ?_⟩, ?_⟩, ?_⟩, ?_⟩, ?_⟩
    · exact owe_load rfl (wants_all rfl) rfl (k := 0) rfl (by kernel_rfl) (loads_of strct_int shp_zx) rfl
    · exact owe_call1 rfl (wants_all rfl) rfl (opnd_op 0 17 (by kernel_rfl) rfl) (fresh_zn _) rfl (fun args w => by go_simp) (fun w u h1 => g_rabs (by omega) w u ((zx_zv' eA (Nat.le_refl _)) _ _ h1))
    · exact owe_move rfl (wants_all rfl) (Or.inl rfl) (opnd_slot 1 5 rfl (by kernel_rfl)) rfl
    · exact owe_call1 rfl (wants_all rfl) rfl (opnd_op 2 19 (by kernel_rfl) rfl) (fresh_zn _) rfl (fun args w => by go_simp) (fun w u h1 => g_rtwoN (x := e) (by omega) w u (by rw [he2]; exact h1))
    · exact owe_call2 rfl (wants_all rfl) rfl (opnd_op 1 18 (by kernel_rfl) rfl) (opnd_op 3 20 (by kernel_rfl) rfl) (fresh_two (fresh_zn _) (fresh_zn _)) rfl (fun args w => by go_simp) (fun w u0 u1 h0 h1 => Gives.cast ((fun w u v h1 h2 => g_rfloor hB (by omega) w u v ((zn_zv dA) _ _ h1) ((zn_zv d2) _ _ h2)) w u0 u1 h0 h1) (by rw [hF, hR]))
    · exact owe_move rfl (wants_all rfl) (Or.inl rfl) (opnd_op 4 21 (by kernel_rfl) rfl) rfl
    · exact owe_ext2 rfl (wants_all rfl) rfl (opnd_op 5 16 (by kernel_rfl) rfl) (Or.inl ⟨rfl, rfl⟩) rfl
    · exact owe_ext2 rfl (wants_all rfl) rfl (opnd_op 5 16 (by kernel_rfl) rfl) (Or.inr ⟨rfl, rfl⟩) rfl
    · exact owe_new rfl (wants_all rfl) rfl rfl (fun ρ w => alloc_int ρ _ w)
    · exact owe_new rfl (wants_all rfl) rfl rfl (fun ρ w => alloc_int ρ _ w)
    · exact owe_put 8 rfl (wants_all rfl) rfl (by kernel_rfl) rfl (opnd_op 6 22 (by kernel_rfl) rfl) (stores_of strct_int shp_z0 shp_zn) rfl
    · exact owe_put 9 rfl (wants_all rfl) rfl (by kernel_rfl) rfl (opnd_op 7 23 (by kernel_rfl) rfl) (stores_of strct_int shp_z0 shp_zn) rfl
  intro B4 a4 W4 S4
  replace S4 : Sta w 35 [(1, (.box 24 (Zx s p n c xs))), (6, (.box 24 ((ZN ((M : Int))) w.heap.size))), (7, (.box 24 ((ZN (R)) w.heap.size)))] [(12, (Is (.bool false))), (5, (Is (.int .i64 0))), (2, (Is (.int .u64 0))), (3, (Is (.int .i64 0))), (4, (Is (.bool false)))] B4 a4 W4 := S4
  refine wp_stmt_seq [.val ((ZN ((M : Int))) w.heap.size),
      .val ((TWO (IS (.int .i64 M)) (IS (.bool true))) w.heap.size),
      .val ((TWO (IS (.int .i64 M)) (IS (.bool true))) w.heap.size),
      .val (Is (.int .i64 M)),
      .val (Is (.bool true)),
      .val (Is (.int .i64 M)),
      .val (Is (.bool true))] [.inr 0, .inr 1, .inr 2] [.inl 5, .inr 0, .inr 1, .inr 2, .inr 3, .inr 4] follows S4 rfl (by kernel_rfl) ?_ ?_
  · refine ⟨⟨⟨⟨⟨⟨⟨trivial, ?_⟩, ?_⟩, ?_⟩, ?_⟩, ?_⟩, ?_⟩, ?_⟩
    · exact owe_load rfl (wants_all rfl) rfl (k := 1) rfl (by kernel_rfl) (loads_of strct_int shp_zn) rfl
    · exact owe_call1 rfl (wants_all rfl) rfl (opnd_op 0 25 (by kernel_rfl) rfl) (fresh_two (fresh_is _) (fresh_is _)) rfl (fun args w => by go_simp) (fun w u0 h0 => Gives.cast ((fun w u h1 => g_rsmall (by omega) w u ((zn_zv hM2) _ _ h1)) w u0 h0) (by rw [hsV, hsK]))
    · exact owe_move rfl (wants_all rfl) (Or.inl rfl) (opnd_op 1 26 (by kernel_rfl) rfl) rfl
    · exact owe_ext2 rfl (wants_all rfl) rfl (opnd_op 2 24 (by kernel_rfl) rfl) (Or.inl ⟨rfl, rfl⟩) rfl
    · exact owe_ext2 rfl (wants_all rfl) rfl (opnd_op 2 24 (by kernel_rfl) rfl) (Or.inr ⟨rfl, rfl⟩) rfl
    · exact owe_move rfl (wants_all rfl) (Or.inr rfl) (opnd_op 3 27 (by kernel_rfl) rfl) rfl
    · exact owe_move rfl (wants_all rfl) (Or.inr rfl) (opnd_op 4 28 (by kernel_rfl) rfl) rfl
  intro B5 a5 W5 S5
  replace S5 : Sta w 35 [(1, (.box 24 (Zx s p n c xs))), (6, (.box 24 ((ZN ((M : Int))) w.heap.size))), (7, (.box 24 ((ZN (R)) w.heap.size)))] [(8, (Is (.int .i64 M))), (12, (Is (.bool false))), (5, (Is (.int .i64 0))), (2, (Is (.int .u64 0))), (3, (Is (.int .i64 0))), (4, (Is (.bool false)))] B5 a5 W5 := S5
  refine wp_stmt_seq [.val (Is (.int .i64 M)),
      .val (Is (.int .u64 M)),
      .val (Is (.int .i64 0)),
      .val ((ZN (R)) w.heap.size),
      .val (Is (.int .i64 (R).sign)),
      .val (Is (.bool true)),
      .val (Is (.int .u64 M)),
      .val (Is (.int .i64 0)),
      .val (Is (.bool true))] [.inr 0, .inr 1, .inr 2] [.inl 6, .inl 7, .inl 8, .inr 1, .inr 2] follows S5 rfl (by kernel_rfl) ?_ ?_
  · refine ⟨⟨⟨⟨⟨⟨⟨⟨⟨trivial, ?_⟩, ?_⟩, ?_⟩, ?_⟩, ?_⟩, ?_⟩, ?_⟩, ?_⟩, ?_⟩
    · exact owe_move rfl (wants_all rfl) (Or.inl rfl) (opnd_slot 0 8 rfl (by kernel_rfl)) rfl
    · exact owe_un (x := .tmp 29) rfl (wants_all rfl) rfl (opnd_op 0 29 (by kernel_rfl) rfl) rfl (fun ρ w h1 => by exact run_conv_u64 ρ _ _ w M hM9 h1)
    · exact owe_move rfl (wants_all rfl) (Or.inl rfl) (opnd_slot 2 5 rfl (by kernel_rfl)) rfl
    · exact owe_load rfl (wants_all rfl) rfl (k := 2) rfl (by kernel_rfl) (loads_of strct_int shp_zn) rfl
    · exact owe_call1 rfl (wants_all rfl) rfl (opnd_op 3 32 (by kernel_rfl) rfl) (fresh_is _) rfl (fun args w => by go_simp) (fun w u h1 => g_rsign (by omega) w u ((zn_zv dR) _ _ h1))
    · exact owe_bin rfl (wants_all rfl) rfl (opnd_op 4 33 (by kernel_rfl) rfl) (opnd_const _) rfl (fun ρ w h1 h2 => by exact run_eql_int_t ρ _ _ _ w _ _ hI h1 h2)
    · exact owe_move rfl (wants_all rfl) (Or.inr rfl) (opnd_op 1 30 (by kernel_rfl) rfl) rfl
    · exact owe_move rfl (wants_all rfl) (Or.inr rfl) (opnd_op 2 31 (by kernel_rfl) rfl) rfl
    · exact owe_move rfl (wants_all rfl) (Or.inr rfl) (opnd_op 5 34 (by kernel_rfl) rfl) rfl
  intro B6 a6 W6 S6
  replace S6 : Sta w 35 [(1, (.box 24 (Zx s p n c xs))), (6, (.box 24 ((ZN ((M : Int))) w.heap.size))), (7, (.box 24 ((ZN (R)) w.heap.size)))] [(2, (Is (.int .u64 M))), (3, (Is (.int .i64 0))), (4, (Is (.bool true))), (12, (Is (.bool false))), (5, (Is (.int .i64 0)))] B6 a6 W6 := S6
  refine wp_ret ?_
  exact end_three S6 rfl (res_tmp S6 0 2 rfl) (res_tmp S6 1 3 rfl) (res_tmp S6 2 4 rfl)

set_option maxHeartbeats 400000 in
theorem rtop_0false (w : World) (s : Bool) (p : Option Addr) (n c : Nat) (xs : List Nat) (h : Sl w p n c xs) (A : Int) (eA : sg s (val xs) = A) (hn : n ≤ 1048576) (bl e M : Nat) (R : Int) (hbl : Go.bitLen A.natAbs = bl) (hbb : bl ≤ 33554432) (he : bl ≤ 53) (he2 : e = 0) (hB : (2 : Int) ^ e ≠ 0) (hF : fl ((A).natAbs : Int) (2 ^ e) = (M : Int)) (hR : rm ((A).natAbs : Int) (2 ^ e) = R) (hM2 : (digs ((M : Int)).natAbs).length ≤ 2) (dR : (digs R.natAbs).length ≤ 1048577) (hsV : smV (M : Int) = (M : Int)) (hsK : smK (M : Int) = true) (hM9 : M < 9223372036854775808) (hI : R.sign ≠ 0) :
    Calls Tryd.prog 11 #[.agg #[.bool s, .slice p n c]] w (Gives (THREE (IS (.int .u64 M)) (IS (.int .i64 0)) (IS (.bool false))) w) := by
  have dA : (digs ((A).natAbs : Int).natAbs).length ≤ n := by rw [Int.natAbs_natCast, ← eA]; exact sg_dl h
  have d2 : (digs ((2 : Int) ^ e).natAbs).length ≤ 1048577 := Nat.le_trans two_len' (by omega)
  refine calls_sta (sl := [(0, (Zx s p n c xs))]) Tryd.func11 rfl Tryd.ntmps11 (by simp) (args_cons rfl (zx_has h) args_nil) ?_
  intro a0 S0
  refine wp_stmt_seq [.new (.box 24 (Zx s p n c xs)),
      .val (Is (.int .u64 0)),
      .val (Is (.int .i64 0)),
      .val (Is (.bool false))] [.inl 0] [.inl 1, .inl 2, .inl 3] follows S0 rfl (by kernel_rfl) ?_ ?_
  · refine ⟨⟨⟨⟨trivial, ?_⟩, ?_⟩, ?_⟩, ?_⟩
    · exact owe_box rfl (wants_all rfl) rfl (opnd_slot 0 0 rfl (by kernel_rfl)) rfl (fun ρ w h => box_int shp_zx ρ _ _ w h)
    · exact owe_move rfl (wants_all rfl) (Or.inr rfl) (opnd_const _) rfl
    · exact owe_move rfl (wants_all rfl) (Or.inr rfl) (opnd_const _) rfl
    · exact owe_move rfl (wants_all rfl) (Or.inr rfl) (opnd_const _) rfl
  intro B1 a1 W1 S1
  replace S1 : Sta w 35 [(1, (.box 24 (Zx s p n c xs)))] [(2, (Is (.int .u64 0))), (3, (Is (.int .i64 0))), (4, (Is (.bool false)))] B1 a1 W1 := S1
  refine wp_stmt_seq [.val (Is (.int .i64 0))] [.inr 0] [.inl 0, .inr 0, .inr 1, .inr 2] follows S1 rfl (by kernel_rfl) ?_ ?_
  · refine ⟨trivial, ?_⟩
    · exact owe_move rfl (wants_all rfl) (Or.inr rfl) (opnd_const _) rfl
  intro B2 a2 W2 S2
  replace S2 : Sta w 35 [(1, (.box 24 (Zx s p n c xs)))] [(5, (Is (.int .i64 0))), (2, (Is (.int .u64 0))), (3, (Is (.int .i64 0))), (4, (Is (.bool false)))] B2 a2 W2 := S2
  refine wp_seq ?_
  refine wp_stmt_seq [.val (Zx s p n c xs),
      .val (Is (.int .i64 bl)),
      .val (Is (.bool false))] [.inr 0] [.inl 2, .inr 0, .inr 1, .inr 2, .inr 3] follows S2 rfl (by kernel_rfl) ?_ ?_
  · refine ⟨⟨⟨trivial, ?_⟩, ?_⟩, ?_⟩
    · exact owe_load rfl (wants_all rfl) rfl (k := 0) rfl (by kernel_rfl) (loads_of strct_int shp_zx) rfl
    · exact owe_call1 rfl (wants_all rfl) rfl (opnd_op 0 10 (by kernel_rfl) rfl) (fresh_is _) rfl (fun args w => by go_simp) (fun w u0 h0 => Gives.cast ((fun w u h1 => g_rbits (by omega) w u ((zx_zv' eA (Nat.le_refl _)) _ _ h1)) w u0 h0) (by rw [hbl]))
    · exact owe_bin rfl (wants_all rfl) rfl (opnd_op 1 11 (by kernel_rfl) rfl) (opnd_const _) rfl (fun ρ w h1 h2 => by exact run_gtr_int_f ρ _ _ _ w _ _ (by omega) h1 h2)
  intro B3 a3 W3 S3
  replace S3 : Sta w 35 [(1, (.box 24 (Zx s p n c xs)))] [(12, (Is (.bool false))), (5, (Is (.int .i64 0))), (2, (Is (.int .u64 0))), (3, (Is (.int .i64 0))), (4, (Is (.bool false)))] B3 a3 W3 := S3
  refine wp_cond_false (S3.bool 0 12 rfl) ?_
  refine wp_skip ?_
  refine thenN ?_
  refine wp_stmt_seq [.val (Zx s p n c xs),
      .val ((ZN (((A).natAbs : Int))) w.heap.size),
      .val (Is (.int .i64 0)),
      .val ((ZN (2 ^ e)) w.heap.size),
      .val ((TWO (ZN ((M : Int))) (ZN (R))) w.heap.size),
      .val ((TWO (ZN ((M : Int))) (ZN (R))) w.heap.size),
      .val ((ZN ((M : Int))) w.heap.size),
      .val ((ZN (R)) w.heap.size),
      .new (.box 24 (Is (.agg #[.bool false, .slice none 0 0]))),
      .new (.box 24 (Is (.agg #[.bool false, .slice none 0 0]))),
      .put (.inr 8) (.box 24 ((ZN ((M : Int))) w.heap.size)),
      .put (.inr 9) (.box 24 ((ZN (R)) w.heap.size))] [.inr 0, .inl 8, .inl 9] [.inr 0, .inr 1, .inr 2, .inr 3, .inr 4] follows S3 rfl (by kernel_rfl) ?_ ?_
  · refine ⟨⟨⟨⟨⟨⟨⟨⟨⟨⟨⟨⟨trivial, ?_⟩, ?_⟩, ?_⟩, ?_⟩, ?_⟩, ?_⟩, ?_⟩, ?_⟩, ?_⟩, ?_⟩, ?_⟩, ?_⟩
    · exact owe_load rfl (wants_all rfl) rfl (k := 0) rfl (by kernel_rfl) (loads_of strct_int shp_zx) rfl
    · exact owe_call1 rfl (wants_all rfl) rfl (opnd_op 0 17 (by kernel_rfl) rfl) (fresh_zn _) rfl (fun args w => by go_simp) (fun w u h1 => g_rabs (by omega) w u ((zx_zv' eA (Nat.le_refl _)) _ _ h1))
    · exact owe_move rfl (wants_all rfl) (Or.inl rfl) (opnd_slot 1 5 rfl (by kernel_rfl)) rfl
    · exact owe_call1 rfl (wants_all rfl) rfl (opnd_op 2 19 (by kernel_rfl) rfl) (fresh_zn _) rfl (fun args w => by go_simp) (fun w u h1 => g_rtwoN (x := e) (by omega) w u (by rw [he2]; exact h1))
    · exact owe_call2 rfl (wants_all rfl) rfl (opnd_op 1 18 (by kernel_rfl) rfl) (opnd_op 3 20 (by kernel_rfl) rfl) (fresh_two (fresh_zn _) (fresh_zn _)) rfl (fun args w => by go_simp) (fun w u0 u1 h0 h1 => Gives.cast ((fun w u v h1 h2 => g_rfloor hB (by omega) w u v ((zn_zv dA) _ _ h1) ((zn_zv d2) _ _ h2)) w u0 u1 h0 h1) (by rw [hF, hR]))
    · exact owe_move rfl (wants_all rfl) (Or.inl rfl) (opnd_op 4 21 (by kernel_rfl) rfl) rfl
    · exact owe_ext2 rfl (wants_all rfl) rfl (opnd_op 5 16 (by kernel_rfl) rfl) (Or.inl ⟨rfl, rfl⟩) rfl
    · exact owe_ext2 rfl (wants_all rfl) rfl (opnd_op 5 16 (by kernel_rfl) rfl) (Or.inr ⟨rfl, rfl⟩) rfl
    · exact owe_new rfl (wants_all rfl) rfl rfl (fun ρ w => alloc_int ρ _ w)
    · exact owe_new rfl (wants_all rfl) rfl rfl (fun ρ w => alloc_int ρ _ w)
    · exact owe_put 8 rfl (wants_all rfl) rfl (by kernel_rfl) rfl (opnd_op 6 22 (by kernel_rfl) rfl) (stores_of strct_int shp_z0 shp_zn) rfl
    · exact owe_put 9 rfl (wants_all rfl) rfl (by kernel_rfl) rfl (opnd_op 7 23 (by kernel_rfl) rfl) (stores_of strct_int shp_z0 shp_zn) rfl
  intro B4 a4 W4 S4
  replace S4 : Sta w 35 [(1, (.box 24 (Zx s p n c xs))), (6, (.box 24 ((ZN ((M : Int))) w.heap.size))), (7, (.box 24 ((ZN (R)) w.heap.size)))] [(12, (Is (.bool false))), (5, (Is (.int .i64 0))), (2, (Is (.int .u64 0))), (3, (Is (.int .i64 0))), (4, (Is (.bool false)))] B4 a4 W4 := S4
  refine wp_stmt_seq [.val ((ZN ((M : Int))) w.heap.size),
      .val ((TWO (IS (.int .i64 M)) (IS (.bool true))) w.heap.size),
      .val ((TWO (IS (.int .i64 M)) (IS (.bool true))) w.heap.size),
      .val (Is (.int .i64 M)),
      .val (Is (.bool true)),
      .val (Is (.int .i64 M)),
      .val (Is (.bool true))] [.inr 0, .inr 1, .inr 2] [.inl 5, .inr 0, .inr 1, .inr 2, .inr 3, .inr 4] follows S4 rfl (by kernel_rfl) ?_ ?_
  · refine ⟨⟨⟨⟨⟨⟨⟨trivial, ?_⟩, ?_⟩, ?_⟩, ?_⟩, ?_⟩, ?_⟩, ?_⟩
    · exact owe_load rfl (wants_all rfl) rfl (k := 1) rfl (by kernel_rfl) (loads_of strct_int shp_zn) rfl
    · exact owe_call1 rfl (wants_all rfl) rfl (opnd_op 0 25 (by kernel_rfl) rfl) (fresh_two (fresh_is _) (fresh_is _)) rfl (fun args w => by go_simp) (fun w u0 h0 => Gives.cast ((fun w u h1 => g_rsmall (by omega) w u ((zn_zv hM2) _ _ h1)) w u0 h0) (by rw [hsV, hsK]))
    · exact owe_move rfl (wants_all rfl) (Or.inl rfl) (opnd_op 1 26 (by kernel_rfl) rfl) rfl
    · exact owe_ext2 rfl (wants_all rfl) rfl (opnd_op 2 24 (by kernel_rfl) rfl) (Or.inl ⟨rfl, rfl⟩) rfl
    · exact owe_ext2 rfl (wants_all rfl) rfl (opnd_op 2 24 (by kernel_rfl) rfl) (Or.inr ⟨rfl, rfl⟩) rfl
    · exact owe_move rfl (wants_all rfl) (Or.inr rfl) (opnd_op 3 27 (by kernel_rfl) rfl) rfl
    · exact owe_move rfl (wants_all rfl) (Or.inr rfl) (opnd_op 4 28 (by kernel_rfl) rfl) rfl
  intro B5 a5 W5 S5
  replace S5 : Sta w 35 [(1, (.box 24 (Zx s p n c xs))), (6, (.box 24 ((ZN ((M : Int))) w.heap.size))), (7, (.box 24 ((ZN (R)) w.heap.size)))] [(8, (Is (.int .i64 M))), (12, (Is (.bool false))), (5, (Is (.int .i64 0))), (2, (Is (.int .u64 0))), (3, (Is (.int .i64 0))), (4, (Is (.bool false)))] B5 a5 W5 := S5
  refine wp_stmt_seq [.val (Is (.int .i64 M)),
      .val (Is (.int .u64 M)),
      .val (Is (.int .i64 0)),
      .val ((ZN (R)) w.heap.size),
      .val (Is (.int .i64 (R).sign)),
      .val (Is (.bool false)),
      .val (Is (.int .u64 M)),
      .val (Is (.int .i64 0)),
      .val (Is (.bool false))] [.inr 0, .inr 1, .inr 2] [.inl 6, .inl 7, .inl 8, .inr 1, .inr 2] follows S5 rfl (by kernel_rfl) ?_ ?_
  · refine ⟨⟨⟨⟨⟨⟨⟨⟨⟨trivial, ?_⟩, ?_⟩, ?_⟩, ?_⟩, ?_⟩, ?_⟩, ?_⟩, ?_⟩, ?_⟩
    · exact owe_move rfl (wants_all rfl) (Or.inl rfl) (opnd_slot 0 8 rfl (by kernel_rfl)) rfl
    · exact owe_un (x := .tmp 29) rfl (wants_all rfl) rfl (opnd_op 0 29 (by kernel_rfl) rfl) rfl (fun ρ w h1 => by exact run_conv_u64 ρ _ _ w M hM9 h1)
    · exact owe_move rfl (wants_all rfl) (Or.inl rfl) (opnd_slot 2 5 rfl (by kernel_rfl)) rfl
    · exact owe_load rfl (wants_all rfl) rfl (k := 2) rfl (by kernel_rfl) (loads_of strct_int shp_zn) rfl
    · exact owe_call1 rfl (wants_all rfl) rfl (opnd_op 3 32 (by kernel_rfl) rfl) (fresh_is _) rfl (fun args w => by go_simp) (fun w u h1 => g_rsign (by omega) w u ((zn_zv dR) _ _ h1))
    · exact owe_bin rfl (wants_all rfl) rfl (opnd_op 4 33 (by kernel_rfl) rfl) (opnd_const _) rfl (fun ρ w h1 h2 => by exact run_eql_int_f ρ _ _ _ w _ _ hI h1 h2)
    · exact owe_move rfl (wants_all rfl) (Or.inr rfl) (opnd_op 1 30 (by kernel_rfl) rfl) rfl
    · exact owe_move rfl (wants_all rfl) (Or.inr rfl) (opnd_op 2 31 (by kernel_rfl) rfl) rfl
    · exact owe_move rfl (wants_all rfl) (Or.inr rfl) (opnd_op 5 34 (by kernel_rfl) rfl) rfl
  intro B6 a6 W6 S6
  replace S6 : Sta w 35 [(1, (.box 24 (Zx s p n c xs))), (6, (.box 24 ((ZN ((M : Int))) w.heap.size))), (7, (.box 24 ((ZN (R)) w.heap.size)))] [(2, (Is (.int .u64 M))), (3, (Is (.int .i64 0))), (4, (Is (.bool false))), (12, (Is (.bool false))), (5, (Is (.int .i64 0)))] B6 a6 W6 := S6
  refine wp_ret ?_
  exact end_three S6 rfl (res_tmp S6 0 2 rfl) (res_tmp S6 1 3 rfl) (res_tmp S6 2 4 rfl)

set_option maxHeartbeats 400000 in
theorem rtop_1true (w : World) (s : Bool) (p : Option Addr) (n c : Nat) (xs : List Nat) (h : Sl w p n c xs) (A : Int) (eA : sg s (val xs) = A) (hn : n ≤ 1048576) (bl e M : Nat) (R : Int) (hbl : Go.bitLen A.natAbs = bl) (hbb : bl ≤ 33554432) (he : 53 < bl) (he2 : e = bl - 53) (hB : (2 : Int) ^ e ≠ 0) (hF : fl ((A).natAbs : Int) (2 ^ e) = (M : Int)) (hR : rm ((A).natAbs : Int) (2 ^ e) = R) (hM2 : (digs ((M : Int)).natAbs).length ≤ 2) (dR : (digs R.natAbs).length ≤ 1048577) (hsV : smV (M : Int) = (M : Int)) (hsK : smK (M : Int) = true) (hM9 : M < 9223372036854775808) (hI : R.sign = 0) :
    Calls Tryd.prog 11 #[.agg #[.bool s, .slice p n c]] w (Gives (THREE (IS (.int .u64 M)) (IS (.int .i64 e)) (IS (.bool true))) w) := by
  have dA : (digs ((A).natAbs : Int).natAbs).length ≤ n := by rw [Int.natAbs_natCast, ← eA]; exact sg_dl h
  have d2 : (digs ((2 : Int) ^ e).natAbs).length ≤ 1048577 := Nat.le_trans two_len' (by omega)
  refine calls_sta (sl := [(0, (Zx s p n c xs))]) Tryd.func11 rfl Tryd.ntmps11 (by simp) (args_cons rfl (zx_has h) args_nil) ?_
  intro a0 S0
  refine wp_stmt_seq [.new (.box 24 (Zx s p n c xs)),
      .val (Is (.int .u64 0)),
      .val (Is (.int .i64 0)),
      .val (Is (.bool false))] [.inl 0] [.inl 1, .inl 2, .inl 3] follows S0 rfl (by kernel_rfl) ?_ ?_
  · refine ⟨⟨⟨⟨trivial, ?_⟩, ?_⟩, ?_⟩, ?_⟩
    · exact owe_box rfl (wants_all rfl) rfl (opnd_slot 0 0 rfl (by kernel_rfl)) rfl (fun ρ w h => box_int shp_zx ρ _ _ w h)
    · exact owe_move rfl (wants_all rfl) (Or.inr rfl) (opnd_const _) rfl
    · exact owe_move rfl (wants_all rfl) (Or.inr rfl) (opnd_const _) rfl
    · exact owe_move rfl (wants_all rfl) (Or.inr rfl) (opnd_const _) rfl
  intro B1 a1 W1 S1
  replace S1 : Sta w 35 [(1, (.box 24 (Zx s p n c xs)))] [(2, (Is (.int .u64 0))), (3, (Is (.int .i64 0))), (4, (Is (.bool false)))] B1 a1 W1 := S1
  refine wp_stmt_seq [.val (Is (.int .i64 0))] [.inr 0] [.inl 0, .inr 0, .inr 1, .inr 2] follows S1 rfl (by kernel_rfl) ?_ ?_
  · refine ⟨trivial, ?_⟩
    · exact owe_move rfl (wants_all rfl) (Or.inr rfl) (opnd_const _) rfl
  intro B2 a2 W2 S2
  replace S2 : Sta w 35 [(1, (.box 24 (Zx s p n c xs)))] [(5, (Is (.int .i64 0))), (2, (Is (.int .u64 0))), (3, (Is (.int .i64 0))), (4, (Is (.bool false)))] B2 a2 W2 := S2
  refine wp_seq ?_
  refine wp_stmt_seq [.val (Zx s p n c xs),
      .val (Is (.int .i64 bl)),
      .val (Is (.bool true))] [.inr 0] [.inl 2, .inr 0, .inr 1, .inr 2, .inr 3] follows S2 rfl (by kernel_rfl) ?_ ?_
  · refine ⟨⟨⟨trivial, ?_⟩, ?_⟩, ?_⟩
    · exact owe_load rfl (wants_all rfl) rfl (k := 0) rfl (by kernel_rfl) (loads_of strct_int shp_zx) rfl
    · exact owe_call1 rfl (wants_all rfl) rfl (opnd_op 0 10 (by kernel_rfl) rfl) (fresh_is _) rfl (fun args w => by go_simp) (fun w u0 h0 => Gives.cast ((fun w u h1 => g_rbits (by omega) w u ((zx_zv' eA (Nat.le_refl _)) _ _ h1)) w u0 h0) (by rw [hbl]))
    · exact owe_bin rfl (wants_all rfl) rfl (opnd_op 1 11 (by kernel_rfl) rfl) (opnd_const _) rfl (fun ρ w h1 h2 => by exact run_gtr_int_t ρ _ _ _ w _ _ (by omega) h1 h2)
  intro B3 a3 W3 S3
  replace S3 : Sta w 35 [(1, (.box 24 (Zx s p n c xs)))] [(12, (Is (.bool true))), (5, (Is (.int .i64 0))), (2, (Is (.int .u64 0))), (3, (Is (.int .i64 0))), (4, (Is (.bool false)))] B3 a3 W3 := S3
  refine wp_cond_true (S3.bool 0 12 rfl) ?_
  refine wp_stmt [.val (Zx s p n c xs),
      .val (Is (.int .i64 bl)),
      .val (Is (.int .i64 e)),
      .val (Is (.int .i64 e))] [.inr 0] [.inl 3, .inr 0, .inr 2, .inr 3, .inr 4] follows S3 rfl (by kernel_rfl) ?_ ?_
  · refine ⟨⟨⟨⟨trivial, ?_⟩, ?_⟩, ?_⟩, ?_⟩
    · exact owe_load rfl (wants_all rfl) rfl (k := 0) rfl (by kernel_rfl) (loads_of strct_int shp_zx) rfl
    · exact owe_call1 rfl (wants_all rfl) rfl (opnd_op 0 13 (by kernel_rfl) rfl) (fresh_is _) rfl (fun args w => by go_simp) (fun w u0 h0 => Gives.cast ((fun w u h1 => g_rbits (by omega) w u ((zx_zv' eA (Nat.le_refl _)) _ _ h1)) w u0 h0) (by rw [hbl]))
    · exact owe_bin rfl (wants_all rfl) rfl (opnd_op 1 14 (by kernel_rfl) rfl) (opnd_const _) rfl (fun ρ w h1 h2 => by exact run_sub_int ρ _ _ _ w _ _ _ ⟨by omega, by omega, by omega⟩ h1 h2)
    · exact owe_move rfl (wants_all rfl) (Or.inr rfl) (opnd_op 2 15 (by kernel_rfl) rfl) rfl
  intro B4 a4 W4 S4
  replace S4 : Sta w 35 [(1, (.box 24 (Zx s p n c xs)))] [(5, (Is (.int .i64 e))), (12, (Is (.bool true))), (2, (Is (.int .u64 0))), (3, (Is (.int .i64 0))), (4, (Is (.bool false)))] B4 a4 W4 := S4
  refine thenN ?_
  refine wp_stmt_seq [.val (Zx s p n c xs),
      .val ((ZN (((A).natAbs : Int))) w.heap.size),
      .val (Is (.int .i64 e)),
      .val ((ZN (2 ^ e)) w.heap.size),
      .val ((TWO (ZN ((M : Int))) (ZN (R))) w.heap.size),
      .val ((TWO (ZN ((M : Int))) (ZN (R))) w.heap.size),
      .val ((ZN ((M : Int))) w.heap.size),
      .val ((ZN (R)) w.heap.size),
      .new (.box 24 (Is (.agg #[.bool false, .slice none 0 0]))),
      .new (.box 24 (Is (.agg #[.bool false, .slice none 0 0]))),
      .put (.inr 8) (.box 24 ((ZN ((M : Int))) w.heap.size)),
      .put (.inr 9) (.box 24 ((ZN (R)) w.heap.size))] [.inr 0, .inl 8, .inl 9] [.inr 0, .inr 1, .inr 2, .inr 3, .inr 4] follows S4 rfl (by kernel_rfl) ?_ ?_
  · refine ⟨⟨⟨⟨⟨⟨⟨⟨⟨⟨⟨⟨trivial, ?_⟩, ?_⟩, ?_⟩, ?_⟩, ?_⟩, ?_⟩, ?_⟩, ?_⟩, ?_⟩, ?_⟩, ?_⟩, ?_⟩
    · exact owe_load rfl (wants_all rfl) rfl (k := 0) rfl (by kernel_rfl) (loads_of strct_int shp_zx) rfl
    · exact owe_call1 rfl (wants_all rfl) rfl (opnd_op 0 17 (by kernel_rfl) rfl) (fresh_zn _) rfl (fun args w => by go_simp) (fun w u h1 => g_rabs (by omega) w u ((zx_zv' eA (Nat.le_refl _)) _ _ h1))
    · exact owe_move rfl (wants_all rfl) (Or.inl rfl) (opnd_slot 0 5 rfl (by kernel_rfl)) rfl
    · exact owe_call1 rfl (wants_all rfl) rfl (opnd_op 2 19 (by kernel_rfl) rfl) (fresh_zn _) rfl (fun args w => by go_simp) (g_rtwoN (x := e) (by omega))
    · exact owe_call2 rfl (wants_all rfl) rfl (opnd_op 1 18 (by kernel_rfl) rfl) (opnd_op 3 20 (by kernel_rfl) rfl) (fresh_two (fresh_zn _) (fresh_zn _)) rfl (fun args w => by go_simp) (fun w u0 u1 h0 h1 => Gives.cast ((fun w u v h1 h2 => g_rfloor hB (by omega) w u v ((zn_zv dA) _ _ h1) ((zn_zv d2) _ _ h2)) w u0 u1 h0 h1) (by rw [hF, hR]))
    · exact owe_move rfl (wants_all rfl) (Or.inl rfl) (opnd_op 4 21 (by kernel_rfl) rfl) rfl
    · exact owe_ext2 rfl (wants_all rfl) rfl (opnd_op 5 16 (by kernel_rfl) rfl) (Or.inl ⟨rfl, rfl⟩) rfl
    · exact owe_ext2 rfl (wants_all rfl) rfl (opnd_op 5 16 (by kernel_rfl) rfl) (Or.inr ⟨rfl, rfl⟩) rfl
    · exact owe_new rfl (wants_all rfl) rfl rfl (fun ρ w => alloc_int ρ _ w)
    · exact owe_new rfl (wants_all rfl) rfl rfl (fun ρ w => alloc_int ρ _ w)
    · exact owe_put 8 rfl (wants_all rfl) rfl (by kernel_rfl) rfl (opnd_op 6 22 (by kernel_rfl) rfl) (stores_of strct_int shp_z0 shp_zn) rfl
    · exact owe_put 9 rfl (wants_all rfl) rfl (by kernel_rfl) rfl (opnd_op 7 23 (by kernel_rfl) rfl) (stores_of strct_int shp_z0 shp_zn) rfl
  intro B5 a5 W5 S5
  replace S5 : Sta w 35 [(1, (.box 24 (Zx s p n c xs))), (6, (.box 24 ((ZN ((M : Int))) w.heap.size))), (7, (.box 24 ((ZN (R)) w.heap.size)))] [(5, (Is (.int .i64 e))), (12, (Is (.bool true))), (2, (Is (.int .u64 0))), (3, (Is (.int .i64 0))), (4, (Is (.bool false)))] B5 a5 W5 := S5
  refine wp_stmt_seq [.val ((ZN ((M : Int))) w.heap.size),
      .val ((TWO (IS (.int .i64 M)) (IS (.bool true))) w.heap.size),
      .val ((TWO (IS (.int .i64 M)) (IS (.bool true))) w.heap.size),
      .val (Is (.int .i64 M)),
      .val (Is (.bool true)),
      .val (Is (.int .i64 M)),
      .val (Is (.bool true))] [.inr 0, .inr 1, .inr 2] [.inl 5, .inr 0, .inr 1, .inr 2, .inr 3, .inr 4] follows S5 rfl (by kernel_rfl) ?_ ?_
  · refine ⟨⟨⟨⟨⟨⟨⟨trivial, ?_⟩, ?_⟩, ?_⟩, ?_⟩, ?_⟩, ?_⟩, ?_⟩
    · exact owe_load rfl (wants_all rfl) rfl (k := 1) rfl (by kernel_rfl) (loads_of strct_int shp_zn) rfl
    · exact owe_call1 rfl (wants_all rfl) rfl (opnd_op 0 25 (by kernel_rfl) rfl) (fresh_two (fresh_is _) (fresh_is _)) rfl (fun args w => by go_simp) (fun w u0 h0 => Gives.cast ((fun w u h1 => g_rsmall (by omega) w u ((zn_zv hM2) _ _ h1)) w u0 h0) (by rw [hsV, hsK]))
    · exact owe_move rfl (wants_all rfl) (Or.inl rfl) (opnd_op 1 26 (by kernel_rfl) rfl) rfl
    · exact owe_ext2 rfl (wants_all rfl) rfl (opnd_op 2 24 (by kernel_rfl) rfl) (Or.inl ⟨rfl, rfl⟩) rfl
    · exact owe_ext2 rfl (wants_all rfl) rfl (opnd_op 2 24 (by kernel_rfl) rfl) (Or.inr ⟨rfl, rfl⟩) rfl
    · exact owe_move rfl (wants_all rfl) (Or.inr rfl) (opnd_op 3 27 (by kernel_rfl) rfl) rfl
    · exact owe_move rfl (wants_all rfl) (Or.inr rfl) (opnd_op 4 28 (by kernel_rfl) rfl) rfl
  intro B6 a6 W6 S6
  replace S6 : Sta w 35 [(1, (.box 24 (Zx s p n c xs))), (6, (.box 24 ((ZN ((M : Int))) w.heap.size))), (7, (.box 24 ((ZN (R)) w.heap.size)))] [(8, (Is (.int .i64 M))), (5, (Is (.int .i64 e))), (12, (Is (.bool true))), (2, (Is (.int .u64 0))), (3, (Is (.int .i64 0))), (4, (Is (.bool false)))] B6 a6 W6 := S6
  refine wp_stmt_seq [.val (Is (.int .i64 M)),
      .val (Is (.int .u64 M)),
      .val (Is (.int .i64 e)),
      .val ((ZN (R)) w.heap.size),
      .val (Is (.int .i64 (R).sign)),
      .val (Is (.bool true)),
      .val (Is (.int .u64 M)),
      .val (Is (.int .i64 e)),
      .val (Is (.bool true))] [.inr 0, .inr 1, .inr 2] [.inl 6, .inl 7, .inl 8, .inr 1, .inr 2] follows S6 rfl (by kernel_rfl) ?_ ?_
  · refine ⟨⟨⟨⟨⟨⟨⟨⟨⟨trivial, ?_⟩, ?_⟩, ?_⟩, ?_⟩, ?_⟩, ?_⟩, ?_⟩, ?_⟩, ?_⟩
    · exact owe_move rfl (wants_all rfl) (Or.inl rfl) (opnd_slot 0 8 rfl (by kernel_rfl)) rfl
    · exact owe_un (x := .tmp 29) rfl (wants_all rfl) rfl (opnd_op 0 29 (by kernel_rfl) rfl) rfl (fun ρ w h1 => by exact run_conv_u64 ρ _ _ w M hM9 h1)
    · exact owe_move rfl (wants_all rfl) (Or.inl rfl) (opnd_slot 1 5 rfl (by kernel_rfl)) rfl
    · exact owe_load rfl (wants_all rfl) rfl (k := 2) rfl (by kernel_rfl) (loads_of strct_int shp_zn) rfl
    · exact owe_call1 rfl (wants_all rfl) rfl (opnd_op 3 32 (by kernel_rfl) rfl) (fresh_is _) rfl (fun args w => by go_simp) (fun w u h1 => g_rsign (by omega) w u ((zn_zv dR) _ _ h1))
    · exact owe_bin rfl (wants_all rfl) rfl (opnd_op 4 33 (by kernel_rfl) rfl) (opnd_const _) rfl (fun ρ w h1 h2 => by exact run_eql_int_t ρ _ _ _ w _ _ hI h1 h2)
    · exact owe_move rfl (wants_all rfl) (Or.inr rfl) (opnd_op 1 30 (by kernel_rfl) rfl) rfl
    · exact owe_move rfl (wants_all rfl) (Or.inr rfl) (opnd_op 2 31 (by kernel_rfl) rfl) rfl
    · exact owe_move rfl (wants_all rfl) (Or.inr rfl) (opnd_op 5 34 (by kernel_rfl) rfl) rfl
  intro B7 a7 W7 S7
  replace S7 : Sta w 35 [(1, (.box 24 (Zx s p n c xs))), (6, (.box 24 ((ZN ((M : Int))) w.heap.size))), (7, (.box 24 ((ZN (R)) w.heap.size)))] [(2, (Is (.int .u64 M))), (3, (Is (.int .i64 e))), (4, (Is (.bool true))), (5, (Is (.int .i64 e))), (12, (Is (.bool true)))] B7 a7 W7 := S7
  refine wp_ret ?_
  exact end_three S7 rfl (res_tmp S7 0 2 rfl) (res_tmp S7 1 3 rfl) (res_tmp S7 2 4 rfl)

set_option maxHeartbeats 400000 in
theorem rtop_1false (w : World) (s : Bool) (p : Option Addr) (n c : Nat) (xs : List Nat) (h : Sl w p n c xs) (A : Int) (eA : sg s (val xs) = A) (hn : n ≤ 1048576) (bl e M : Nat) (R : Int) (hbl : Go.bitLen A.natAbs = bl) (hbb : bl ≤ 33554432) (he : 53 < bl) (he2 : e = bl - 53) (hB : (2 : Int) ^ e ≠ 0) (hF : fl ((A).natAbs : Int) (2 ^ e) = (M : Int)) (hR : rm ((A).natAbs : Int) (2 ^ e) = R) (hM2 : (digs ((M : Int)).natAbs).length ≤ 2) (dR : (digs R.natAbs).length ≤ 1048577) (hsV : smV (M : Int) = (M : Int)) (hsK : smK (M : Int) = true) (hM9 : M < 9223372036854775808) (hI : R.sign ≠ 0) :
    Calls Tryd.prog 11 #[.agg #[.bool s, .slice p n c]] w (Gives (THREE (IS (.int .u64 M)) (IS (.int .i64 e)) (IS (.bool false))) w) := by
  have dA : (digs ((A).natAbs : Int).natAbs).length ≤ n := by rw [Int.natAbs_natCast, ← eA]; exact sg_dl h
  have d2 : (digs ((2 : Int) ^ e).natAbs).length ≤ 1048577 := Nat.le_trans two_len' (by omega)
  refine calls_sta (sl := [(0, (Zx s p n c xs))]) Tryd.func11 rfl Tryd.ntmps11 (by simp) (args_cons rfl (zx_has h) args_nil) ?_
  intro a0 S0
  refine wp_stmt_seq [.new (.box 24 (Zx s p n c xs)),
      .val (Is (.int .u64 0)),
      .val (Is (.int .i64 0)),
      .val (Is (.bool false))] [.inl 0] [.inl 1, .inl 2, .inl 3] follows S0 rfl (by kernel_rfl) ?_ ?_
  · refine ⟨⟨⟨⟨trivial, ?_⟩, ?_⟩, ?_⟩, ?_⟩
    · exact owe_box rfl (wants_all rfl) rfl (opnd_slot 0 0 rfl (by kernel_rfl)) rfl (fun ρ w h => box_int shp_zx ρ _ _ w h)
    · exact owe_move rfl (wants_all rfl) (Or.inr rfl) (opnd_const _) rfl
    · exact owe_move rfl (wants_all rfl) (Or.inr rfl) (opnd_const _) rfl
    · exact owe_move rfl (wants_all rfl) (Or.inr rfl) (opnd_const _) rfl
  intro B1 a1 W1 S1
  replace S1 : Sta w 35 [(1, (.box 24 (Zx s p n c xs)))] [(2, (Is (.int .u64 0))), (3, (Is (.int .i64 0))), (4, (Is (.bool false)))] B1 a1 W1 := S1
  refine wp_stmt_seq [.val (Is (.int .i64 0))] [.inr 0] [.inl 0, .inr 0, .inr 1, .inr 2] follows S1 rfl (by kernel_rfl) ?_ ?_
  · refine ⟨trivial, ?_⟩
    · exact owe_move rfl (wants_all rfl) (Or.inr rfl) (opnd_const _) rfl
  intro B2 a2 W2 S2
  replace S2 : Sta w 35 [(1, (.box 24 (Zx s p n c xs)))] [(5, (Is (.int .i64 0))), (2, (Is (.int .u64 0))), (3, (Is (.int .i64 0))), (4, (Is (.bool false)))] B2 a2 W2 := S2
  refine wp_seq ?_
  refine wp_stmt_seq [.val (Zx s p n c xs),
      .val (Is (.int .i64 bl)),
      .val (Is (.bool true))] [.inr 0] [.inl 2, .inr 0, .inr 1, .inr 2, .inr 3] follows S2 rfl (by kernel_rfl) ?_ ?_
  · refine ⟨⟨⟨trivial, ?_⟩, ?_⟩, ?_⟩
    · exact owe_load rfl (wants_all rfl) rfl (k := 0) rfl (by kernel_rfl) (loads_of strct_int shp_zx) rfl
    · exact owe_call1 rfl (wants_all rfl) rfl (opnd_op 0 10 (by kernel_rfl) rfl) (fresh_is _) rfl (fun args w => by go_simp) (fun w u0 h0 => Gives.cast ((fun w u h1 => g_rbits (by omega) w u ((zx_zv' eA (Nat.le_refl _)) _ _ h1)) w u0 h0) (by rw [hbl]))
    · exact owe_bin rfl (wants_all rfl) rfl (opnd_op 1 11 (by kernel_rfl) rfl) (opnd_const _) rfl (fun ρ w h1 h2 => by exact run_gtr_int_t ρ _ _ _ w _ _ (by omega) h1 h2)
  intro B3 a3 W3 S3
  replace S3 : Sta w 35 [(1, (.box 24 (Zx s p n c xs)))] [(12, (Is (.bool true))), (5, (Is (.int .i64 0))), (2, (Is (.int .u64 0))), (3, (Is (.int .i64 0))), (4, (Is (.bool false)))] B3 a3 W3 := S3
  refine wp_cond_true (S3.bool 0 12 rfl) ?_
  refine wp_stmt [.val (Zx s p n c xs),
      .val (Is (.int .i64 bl)),
      .val (Is (.int .i64 e)),
      .val (Is (.int .i64 e))] [.inr 0] [.inl 3, .inr 0, .inr 2, .inr 3, .inr 4] follows S3 rfl (by kernel_rfl) ?_ ?_
  · refine ⟨⟨⟨⟨trivial, ?_⟩, ?_⟩, ?_⟩, ?_⟩
    · exact owe_load rfl (wants_all rfl) rfl (k := 0) rfl (by kernel_rfl) (loads_of strct_int shp_zx) rfl
    · exact owe_call1 rfl (wants_all rfl) rfl (opnd_op 0 13 (by kernel_rfl) rfl) (fresh_is _) rfl (fun args w => by go_simp) (fun w u0 h0 => Gives.cast ((fun w u h1 => g_rbits (by omega) w u ((zx_zv' eA (Nat.le_refl _)) _ _ h1)) w u0 h0) (by rw [hbl]))
    · exact owe_bin rfl (wants_all rfl) rfl (opnd_op 1 14 (by kernel_rfl) rfl) (opnd_const _) rfl (fun ρ w h1 h2 => by exact run_sub_int ρ _ _ _ w _ _ _ ⟨by omega, by omega, by omega⟩ h1 h2)
    · exact owe_move rfl (wants_all rfl) (Or.inr rfl) (opnd_op 2 15 (by kernel_rfl) rfl) rfl
  intro B4 a4 W4 S4
  replace S4 : Sta w 35 [(1, (.box 24 (Zx s p n c xs)))] [(5, (Is (.int .i64 e))), (12, (Is (.bool true))), (2, (Is (.int .u64 0))), (3, (Is (.int .i64 0))), (4, (Is (.bool false)))] B4 a4 W4 := S4
  refine thenN ?_
  refine wp_stmt_seq [.val (Zx s p n c xs),
      .val ((ZN (((A).natAbs : Int))) w.heap.size),
      .val (Is (.int .i64 e)),
      .val ((ZN (2 ^ e)) w.heap.size),
      .val ((TWO (ZN ((M : Int))) (ZN (R))) w.heap.size),
      .val ((TWO (ZN ((M : Int))) (ZN (R))) w.heap.size),
      .val ((ZN ((M : Int))) w.heap.size),
      .val ((ZN (R)) w.heap.size),
      .new (.box 24 (Is (.agg #[.bool false, .slice none 0 0]))),
      .new (.box 24 (Is (.agg #[.bool false, .slice none 0 0]))),
      .put (.inr 8) (.box 24 ((ZN ((M : Int))) w.heap.size)),
      .put (.inr 9) (.box 24 ((ZN (R)) w.heap.size))] [.inr 0, .inl 8, .inl 9] [.inr 0, .inr 1, .inr 2, .inr 3, .inr 4] follows S4 rfl (by kernel_rfl) ?_ ?_
  · refine ⟨⟨⟨⟨⟨⟨⟨⟨⟨⟨⟨⟨trivial, ?_⟩, ?_⟩, ?_⟩, ?_⟩, ?_⟩, ?_⟩, ?_⟩, ?_⟩, ?_⟩, ?_⟩, ?_⟩, ?_⟩
    · exact owe_load rfl (wants_all rfl) rfl (k := 0) rfl (by kernel_rfl) (loads_of strct_int shp_zx) rfl
    · exact owe_call1 rfl (wants_all rfl) rfl (opnd_op 0 17 (by kernel_rfl) rfl) (fresh_zn _) rfl (fun args w => by go_simp) (fun w u h1 => g_rabs (by omega) w u ((zx_zv' eA (Nat.le_refl _)) _ _ h1))
    · exact owe_move rfl (wants_all rfl) (Or.inl rfl) (opnd_slot 0 5 rfl (by kernel_rfl)) rfl
    · exact owe_call1 rfl (wants_all rfl) rfl (opnd_op 2 19 (by kernel_rfl) rfl) (fresh_zn _) rfl (fun args w => by go_simp) (g_rtwoN (x := e) (by omega))
    · exact owe_call2 rfl (wants_all rfl) rfl (opnd_op 1 18 (by kernel_rfl) rfl) (opnd_op 3 20 (by kernel_rfl) rfl) (fresh_two (fresh_zn _) (fresh_zn _)) rfl (fun args w => by go_simp) (fun w u0 u1 h0 h1 => Gives.cast ((fun w u v h1 h2 => g_rfloor hB (by omega) w u v ((zn_zv dA) _ _ h1) ((zn_zv d2) _ _ h2)) w u0 u1 h0 h1) (by rw [hF, hR]))
    · exact owe_move rfl (wants_all rfl) (Or.inl rfl) (opnd_op 4 21 (by kernel_rfl) rfl) rfl
    · exact owe_ext2 rfl (wants_all rfl) rfl (opnd_op 5 16 (by kernel_rfl) rfl) (Or.inl ⟨rfl, rfl⟩) rfl
    · exact owe_ext2 rfl (wants_all rfl) rfl (opnd_op 5 16 (by kernel_rfl) rfl) (Or.inr ⟨rfl, rfl⟩) rfl
    · exact owe_new rfl (wants_all rfl) rfl rfl (fun ρ w => alloc_int ρ _ w)
    · exact owe_new rfl (wants_all rfl) rfl rfl (fun ρ w => alloc_int ρ _ w)
    · exact owe_put 8 rfl (wants_all rfl) rfl (by kernel_rfl) rfl (opnd_op 6 22 (by kernel_rfl) rfl) (stores_of strct_int shp_z0 shp_zn) rfl
    · exact owe_put 9 rfl (wants_all rfl) rfl (by kernel_rfl) rfl (opnd_op 7 23 (by kernel_rfl) rfl) (stores_of strct_int shp_z0 shp_zn) rfl
  intro B5 a5 W5 S5
  replace S5 : Sta w 35 [(1, (.box 24 (Zx s p n c xs))), (6, (.box 24 ((ZN ((M : Int))) w.heap.size))), (7, (.box 24 ((ZN (R)) w.heap.size)))] [(5, (Is (.int .i64 e))), (12, (Is (.bool true))), (2, (Is (.int .u64 0))), (3, (Is (.int .i64 0))), (4, (Is (.bool false)))] B5 a5 W5 := S5
  refine wp_stmt_seq [.val ((ZN ((M : Int))) w.heap.size),
      .val ((TWO (IS (.int .i64 M)) (IS (.bool true))) w.heap.size),
      .val ((TWO (IS (.int .i64 M)) (IS (.bool true))) w.heap.size),
      .val (Is (.int .i64 M)),
      .val (Is (.bool true)),
      .val (Is (.int .i64 M)),
      .val (Is (.bool true))] [.inr 0, .inr 1, .inr 2] [.inl 5, .inr 0, .inr 1, .inr 2, .inr 3, .inr 4] follows S5 rfl (by kernel_rfl) ?_ ?_
  · refine ⟨⟨⟨⟨⟨⟨⟨trivial, ?_⟩, ?_⟩, ?_⟩, ?_⟩, ?_⟩, ?_⟩, ?_⟩
    · exact owe_load rfl (wants_all rfl) rfl (k := 1) rfl (by kernel_rfl) (loads_of strct_int shp_zn) rfl
    · exact owe_call1 rfl (wants_all rfl) rfl (opnd_op 0 25 (by kernel_rfl) rfl) (fresh_two (fresh_is _) (fresh_is _)) rfl (fun args w => by go_simp) (fun w u0 h0 => Gives.cast ((fun w u h1 => g_rsmall (by omega) w u ((zn_zv hM2) _ _ h1)) w u0 h0) (by rw [hsV, hsK]))
    · exact owe_move rfl (wants_all rfl) (Or.inl rfl) (opnd_op 1 26 (by kernel_rfl) rfl) rfl
    · exact owe_ext2 rfl (wants_all rfl) rfl (opnd_op 2 24 (by kernel_rfl) rfl) (Or.inl ⟨rfl, rfl⟩) rfl
    · exact owe_ext2 rfl (wants_all rfl) rfl (opnd_op 2 24 (by kernel_rfl) rfl) (Or.inr ⟨rfl, rfl⟩) rfl
    · exact owe_move rfl (wants_all rfl) (Or.inr rfl) (opnd_op 3 27 (by kernel_rfl) rfl) rfl
    · exact owe_move rfl (wants_all rfl) (Or.inr rfl) (opnd_op 4 28 (by kernel_rfl) rfl) rfl
  intro B6 a6 W6 S6
  replace S6 : Sta w 35 [(1, (.box 24 (Zx s p n c xs))), (6, (.box 24 ((ZN ((M : Int))) w.heap.size))), (7, (.box 24 ((ZN (R)) w.heap.size)))] [(8, (Is (.int .i64 M))), (5, (Is (.int .i64 e))), (12, (Is (.bool true))), (2, (Is (.int .u64 0))), (3, (Is (.int .i64 0))), (4, (Is (.bool false)))] B6 a6 W6 := S6
  refine wp_stmt_seq [.val (Is (.int .i64 M)),
      .val (Is (.int .u64 M)),
      .val (Is (.int .i64 e)),
      .val ((ZN (R)) w.heap.size),
      .val (Is (.int .i64 (R).sign)),
      .val (Is (.bool false)),
      .val (Is (.int .u64 M)),
      .val (Is (.int .i64 e)),
      .val (Is (.bool false))] [.inr 0, .inr 1, .inr 2] [.inl 6, .inl 7, .inl 8, .inr 1, .inr 2] follows S6 rfl (by kernel_rfl) ?_ ?_
  · refine ⟨⟨⟨⟨⟨⟨⟨⟨⟨trivial, ?_⟩, ?_⟩, ?_⟩, ?_⟩, ?_⟩, ?_⟩, ?_⟩, ?_⟩, ?_⟩
    · exact owe_move rfl (wants_all rfl) (Or.inl rfl) (opnd_slot 0 8 rfl (by kernel_rfl)) rfl
    · exact owe_un (x := .tmp 29) rfl (wants_all rfl) rfl (opnd_op 0 29 (by kernel_rfl) rfl) rfl (fun ρ w h1 => by exact run_conv_u64 ρ _ _ w M hM9 h1)
    · exact owe_move rfl (wants_all rfl) (Or.inl rfl) (opnd_slot 1 5 rfl (by kernel_rfl)) rfl
    · exact owe_load rfl (wants_all rfl) rfl (k := 2) rfl (by kernel_rfl) (loads_of strct_int shp_zn) rfl
    · exact owe_call1 rfl (wants_all rfl) rfl (opnd_op 3 32 (by kernel_rfl) rfl) (fresh_is _) rfl (fun args w => by go_simp) (fun w u h1 => g_rsign (by omega) w u ((zn_zv dR) _ _ h1))
    · exact owe_bin rfl (wants_all rfl) rfl (opnd_op 4 33 (by kernel_rfl) rfl) (opnd_const _) rfl (fun ρ w h1 h2 => by exact run_eql_int_f ρ _ _ _ w _ _ hI h1 h2)
    · exact owe_move rfl (wants_all rfl) (Or.inr rfl) (opnd_op 1 30 (by kernel_rfl) rfl) rfl
    · exact owe_move rfl (wants_all rfl) (Or.inr rfl) (opnd_op 2 31 (by kernel_rfl) rfl) rfl
    · exact owe_move rfl (wants_all rfl) (Or.inr rfl) (opnd_op 5 34 (by kernel_rfl) rfl) rfl
  intro B7 a7 W7 S7
  replace S7 : Sta w 35 [(1, (.box 24 (Zx s p n c xs))), (6, (.box 24 ((ZN ((M : Int))) w.heap.size))), (7, (.box 24 ((ZN (R)) w.heap.size)))] [(2, (Is (.int .u64 M))), (3, (Is (.int .i64 e))), (4, (Is (.bool false))), (5, (Is (.int .i64 e))), (12, (Is (.bool true)))] B7 a7 W7 := S7
  refine wp_ret ?_
  exact end_three S7 rfl (res_tmp S7 0 2 rfl) (res_tmp S7 1 3 rfl) (res_tmp S7 2 4 rfl)


/-- What Top says. -/
def tE (A : Int) : Nat := Go.bitLen A.natAbs - 53
def tM (A : Int) : Nat := A.natAbs / 2 ^ tE A
def tI (A : Int) : Bool := decide (A.natAbs % 2 ^ tE A = 0)
theorem tM_lt (A : Int) : tM A < 9007199254740992 := by
  unfold tM
  refine Nat.div_lt_of_lt_mul ?_
  rw [show (9007199254740992 : Nat) = 2 ^ 53 from rfl, ← Nat.pow_add]
  refine Nat.lt_of_lt_of_le (bitLen_spec A.natAbs).1 (Nat.pow_le_pow_right (by omega) ?_)
  unfold tE
  omega
theorem top_small {m : Nat} (h : m < 9223372036854775808) : smK (m : Int) = true ∧ smV (m : Int) = (m : Int) := sm_yes (by omega) (by omega)
theorem tM_two (A : Int) : (digs (tM A)).length ≤ 2 := by
  have := tM_lt A
  exact digs_length_le (by omega)
theorem tI_tz (A : Int) : A.natAbs % 2 ^ tE A = 0 ↔ tE A ≤ tz A.natAbs := by
  by_cases h0 : A.natAbs = 0
  · have e : tE A = 0 := by unfold tE; rw [h0]; rfl
    rw [e, h0]
    simp
  · exact (tz_ge h0).symm
theorem g_ztop {A : Int} {k : Nat} (hk : k ≤ 1048576) : ∀ w u, T32 w → Zv A k u w → Calls Tryd.prog 10 #[u] w (Gives (THREE (IS (.int .u64 (tM A : Nat))) (IS (.int .i64 (tE A : Nat))) (IS (.bool (tI A)))) w) := by
  rintro w u hT ⟨s, p, n, c, xs, rfl, h, eA, hn⟩
  have ex : A.natAbs = val xs := by rw [← eA, sg_abs]
  have h1 := bl_len h.dl
  have hM : val xs / 2 ^ ((tE A : Nat) : Int).toNat = tM A := by unfold tM; rw [Int.toNat_natCast, ex]
  have he : (Go.bitLen A.natAbs ≤ 53 ∧ tE A = 0) ∨ (53 ≤ Go.bitLen A.natAbs ∧ tE A = Go.bitLen A.natAbs - 53) := by unfold tE; omega
  by_cases hI : A.natAbs % 2 ^ tE A = 0
  · have h2 := (tI_tz A).1 hI
    have e3 : tI A = true := decide_eq_true hI
    rw [e3]
    exact ztop_true w s p n c xs h A eA (by omega) hT _ _ _ rfl (by rw [ex]; omega) he hM (tM_two A) (by rw [← ex]; omega)
  · have h2 : ¬ tE A ≤ tz A.natAbs := fun h => hI ((tI_tz A).2 h)
    have e3 : tI A = false := decide_eq_false hI
    rw [e3]
    exact ztop_false w s p n c xs h A eA (by omega) hT _ _ _ rfl (by rw [ex]; omega) he hM (tM_two A) (by rw [← ex]; omega)
theorem fl_nat (x K : Nat) : fl (x : Int) (2 ^ K) = ((x / 2 ^ K : Nat) : Int) := by
  have hp : (0 : Int) < 2 ^ K := Int.pow_pos (by decide)
  unfold fl
  rw [if_pos hp]
  simp
theorem rm_nat (x K : Nat) : rm (x : Int) (2 ^ K) = ((x % 2 ^ K : Nat) : Int) := by
  unfold rm
  rw [fl_nat]
  have e : ((2 ^ K * (x / 2 ^ K) + x % 2 ^ K : Nat) : Int) = (x : Int) := by rw [Nat.div_add_mod]
  have e2 : (2 : Int) ^ K = ((2 ^ K : Nat) : Int) := by simp
  rw [e2]
  rw [Int.natCast_add, Int.natCast_mul, Int.mul_comm] at e
  omega
theorem g_rtop {A : Int} {k : Nat} (hk : k ≤ 1048576) : ∀ w u, Zv A k u w → Calls Tryd.prog 11 #[u] w (Gives (THREE (IS (.int .u64 (tM A : Nat))) (IS (.int .i64 (tE A : Nat))) (IS (.bool (tI A)))) w) := by
  rintro w u ⟨s, p, n, c, xs, rfl, h, eA, hn⟩
  have ex : A.natAbs = val xs := by rw [← eA, sg_abs]
  have h1 := bl_len h.dl
  have hF : fl (A.natAbs : Int) (2 ^ tE A) = ((tM A : Nat) : Int) := fl_nat _ _
  have hR := rm_nat A.natAbs (tE A)
  have hB : (2 : Int) ^ tE A ≠ 0 := Int.ne_of_gt (Int.pow_pos (by decide))
  have hlt := tM_lt A
  have d2 : (digs (((tM A : Nat) : Int)).natAbs).length ≤ 2 := by rw [Int.natAbs_natCast]; exact tM_two A
  have dR : (digs (((A.natAbs % 2 ^ tE A : Nat) : Int)).natAbs).length ≤ 1048577 := by
    rw [Int.natAbs_natCast, ex]
    exact Nat.le_trans (digs_length_mono (Nat.mod_le _ _)) (Nat.le_trans h.dl (by omega))
  have hM9 : tM A < 9223372036854775808 := Nat.lt_trans hlt (by decide)
  obtain ⟨hsK, hsV⟩ := top_small hM9
  have hbb : Go.bitLen A.natAbs ≤ 33554432 := by rw [ex]; omega
  by_cases hc : 53 < Go.bitLen A.natAbs
  · have he2 : tE A = Go.bitLen A.natAbs - 53 := rfl
    by_cases hI : A.natAbs % 2 ^ tE A = 0
    · have e3 : tI A = true := decide_eq_true hI
      rw [e3]
      exact rtop_1true w s p n c xs h A eA (by omega) _ _ _ _ rfl hbb hc he2 hB hF hR d2 dR hsV hsK hM9 (by rw [hI]; rfl)
    · have e3 : tI A = false := decide_eq_false hI
      rw [e3]
      exact rtop_1false w s p n c xs h A eA (by omega) _ _ _ _ rfl hbb hc he2 hB hF hR d2 dR hsV hsK hM9 (fun e => hI (by have := Int.sign_eq_zero_iff_zero.1 e; omega))
  · have he2 : tE A = 0 := by unfold tE; omega
    by_cases hI : A.natAbs % 2 ^ tE A = 0
    · have e3 : tI A = true := decide_eq_true hI
      rw [e3]
      exact Gives.cast (rtop_0true w s p n c xs h A eA (by omega) _ _ _ _ rfl hbb (by omega) he2 hB hF hR d2 dR hsV hsK hM9 (by rw [hI]; rfl)) (by rw [he2]; rfl)
    · have e3 : tI A = false := decide_eq_false hI
      rw [e3]
      exact Gives.cast (rtop_0false w s p n c xs h A eA (by omega) _ _ _ _ rfl hbb (by omega) he2 hB hF hR d2 dR hsV hsK hM9 (fun e => hI (by have := Int.sign_eq_zero_iff_zero.1 e; omega))) (by rw [he2]; rfl)

end Go.Proofs.YtcngoobdknifdaaDoor
