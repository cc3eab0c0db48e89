/-
  Roots, bits and top bits: zint's, and the document's.
-/
import Derived.Test.YtoplejeljmpcpaaDoorRFloor
import Derived.Test.YtoplejeljmpcpaaDoorTz
import Derived.Test.YtoplejeljmpcpaaDoorZRSmall
import Derived.Test.YtoplejeljmpcpaaDoorSetE
import Derived.Test.YtoplejeljmpcpaaDoorRefRoot
import Derived.Test.YtoplejeljmpcpaaDoorRoot
namespace Go.Proofs.YtoplejeljmpcpaaDoor
open Go Go.RowKit Nt
set_option linter.unusedSimpArgs false
set_option linter.unusedVariables false
set_option maxRecDepth 20000

set_option maxHeartbeats 400000 in
theorem shr_w (w : World) (p : Option Addr) (n c : Nat) (xs : List Nat) (z : Int) (h : Sl w p n c xs) (hn : n ≤ 35184372088832) (hz : 0 ≤ z) (hz2 : z ≤ 9223372036854775807) :
    Calls Tryd.prog 40 #[.slice p n c, .int .i64 z] w (Gives (TWO (NN (val xs / 2 ^ z.toNat)) (IS (.int .i64 0))) w) := by
  have dx : (digs (val xs)).length ≤ n := h.dl
  refine calls_sta (sl := [(0, (Nx p n c xs)), (1, (Is (.int .i64 z)))]) Tryd.func40 rfl Tryd.ntmps40 (by simp) (args_cons rfl (nx_has h) (args_cons rfl (is_has _) args_nil)) ?_
  intro a0 S0
  refine wp_stmt_seq [.val (Is (.slice none 0 0)),
      .val (Is (.int .i64 0))] [] [.inl 0, .inl 1, .inr 0, .inr 1] follows S0 rfl (by kernel_rfl) ?_ ?_
  · refine ⟨⟨trivial, ?_⟩, ?_⟩
    · exact owe_move rfl (wants_all rfl) (Or.inr rfl) (opnd_const _) rfl
    · exact owe_move rfl (wants_all rfl) (Or.inr rfl) (opnd_const _) rfl
  intro B1 a1 W1 S1
  replace S1 : Sta w 12 [] [(4, (Is (.slice none 0 0))), (5, (Is (.int .i64 0))), (0, (Nx p n c xs)), (1, (Is (.int .i64 z)))] B1 a1 W1 := S1
  refine wp_seq ?_
  refine wp_stmt_seq [.val (Is (.int .i64 z)),
      .val (Is (.bool false))] [] [.inl 1, .inr 0, .inr 1, .inr 2, .inr 3] follows S1 rfl (by kernel_rfl) ?_ ?_
  · refine ⟨⟨trivial, ?_⟩, ?_⟩
    · exact owe_move rfl (wants_all rfl) (Or.inl rfl) (opnd_slot 3 1 rfl (by kernel_rfl)) rfl
    · exact owe_bin rfl (wants_all rfl) rfl (opnd_op 0 6 (by kernel_rfl) rfl) (opnd_const _) rfl (fun ρ w h1 h2 => by exact run_lss_int_f ρ _ _ _ w _ _ hz h1 h2)
  intro B2 a2 W2 S2
  replace S2 : Sta w 12 [] [(7, (Is (.bool false))), (4, (Is (.slice none 0 0))), (5, (Is (.int .i64 0))), (0, (Nx p n c xs)), (1, (Is (.int .i64 z)))] B2 a2 W2 := S2
  refine wp_cond_false (S2.bool 0 7 rfl) ?_
  refine wp_skip ?_
  refine thenN ?_
  refine wp_stmt_seq [.val (Nx p n c xs),
      .val (Nx p (digs (val xs)).length c (digs (val xs))),
      .val (Is (.int .i64 z)),
      .val ((NN (val xs / 2 ^ z.toNat)) w.heap.size),
      .val ((NN (val xs / 2 ^ z.toNat)) w.heap.size),
      .val (Is (.int .i64 0))] [] [.inl 4, .inl 5, .inr 0, .inr 4] follows S2 rfl (by kernel_rfl) ?_ ?_
  · refine ⟨⟨⟨⟨⟨⟨trivial, ?_⟩, ?_⟩, ?_⟩, ?_⟩, ?_⟩, ?_⟩
    · exact owe_move rfl (wants_all rfl) (Or.inl rfl) (opnd_slot 3 0 rfl (by kernel_rfl)) rfl
    · exact owe_callF1 rfl (wants_all rfl) rfl (opnd_op 0 8 (by kernel_rfl) rfl) rfl (fun args w => by go_simp) g_trim
    · exact owe_move rfl (wants_all rfl) (Or.inl rfl) (opnd_slot 4 1 rfl (by kernel_rfl)) rfl
    · exact owe_call2 rfl (wants_all rfl) rfl (opnd_op 1 9 (by kernel_rfl) rfl) (opnd_op 2 10 (by kernel_rfl) rfl) (fresh_nn _) rfl (fun args w => by go_simp) (fun w u v h1 h2 => g_down (z := z.toNat) (by omega) (by omega) w u v (digs_nx dx _ _ h1) (by rw [show ((z.toNat : Nat) : Int) = z from by omega]; exact h2))
    · exact owe_move rfl (wants_all rfl) (Or.inr rfl) (opnd_op 3 11 (by kernel_rfl) rfl) rfl
    · exact owe_move rfl (wants_all rfl) (Or.inr rfl) (opnd_const _) rfl
  intro B3 a3 W3 S3
  replace S3 : Sta w 12 [] [(4, ((NN (val xs / 2 ^ z.toNat)) w.heap.size)), (5, (Is (.int .i64 0))), (7, (Is (.bool false))), (1, (Is (.int .i64 z)))] B3 a3 W3 := S3
  refine wp_ret ?_
  exact end_two S3 rfl (res_tmp S3 0 4 rfl) (res_tmp S3 1 5 rfl)


theorem g_shr {x k : Nat} {z : Int} (hk : k ≤ 35184372088832) (hz : 0 ≤ z) (hz2 : z ≤ 9223372036854775807) : ∀ w u v, Nv x k u w → Is (.int .i64 z) v w → Calls Tryd.prog 40 #[u, v] w (Gives (TWO (NN (x / 2 ^ z.toNat)) (IS (.int .i64 0))) w) := by
  rintro w u v ⟨p, n, c, xs, rfl, h, rfl, hn⟩ e
  obtain rfl : v = _ := e
  exact shr_w w p n c xs z h (by omega) hz hz2
theorem g_zsign {A : Int} {k : Nat} (hk : k ≤ 70368744177664) : ∀ w u, Zv A k u w → Calls Tryd.prog 15 #[u] w (Gives (IS (.int .i64 A.sign)) w) := by
  rintro w u ⟨s, p, n, c, xs, rfl, h, rfl, hn⟩
  refine (zsign_c w s p n c xs h (by omega)).mono ?_
  rintro e w' ⟨rfl, hb⟩
  exact ⟨_, rfl, hb, rfl⟩
theorem g_radd1 {x y ka kb : Nat} (hk : ka ≤ 35184372088831) (hk' : kb ≤ 35184372088831) : ∀ w u v, Nv x ka u w → Nv y kb v w → Calls Tryd.prog 55 #[u, v] w (Gives (NN (x + y)) w) := by
  rintro w u v ⟨p, n, c, xs, rfl, h, rfl, hn⟩ ⟨q, m, d, ys, rfl, h', rfl, hm⟩
  refine (radd_c w p q n c m d xs ys h h' (by omega) (by omega)).mono ?_
  rintro e w' ⟨r, cr, rfl, A⟩
  exact ⟨_, rfl, A.below, ans_nn A⟩
theorem g_rmul1 {x y ka kb : Nat} (hk : ka + kb ≤ 35184372088832) : ∀ w u v, Nv x ka u w → Nv y kb v w → Calls Tryd.prog 56 #[u, v] w (Gives (NN (x * y)) w) := by
  rintro w u v ⟨p, n, c, xs, rfl, h, rfl, hn⟩ ⟨q, m, d, ys, rfl, h', rfl, hm⟩
  refine (rmul_c w p q n c m d xs ys h h' (by omega)).mono ?_
  rintro e w' ⟨r, cr, rfl, A⟩
  exact ⟨_, rfl, A.below, ans_nn A⟩
open Classical in
/-- The root, rounded down. -/
noncomputable def rt (X : Nat) : Nat := if h : ∃ R, IsRoot X R then Classical.choose h else 0
theorem rt_eq {X R : Nat} (h : IsRoot X R) : rt X = R := by
  unfold rt
  rw [dif_pos ⟨R, h⟩]
  exact isRoot_unique (Classical.choose_spec (p := fun R => IsRoot X R) ⟨R, h⟩) h
theorem g_root {x k : Nat} (hk : k ≤ 35184372088832) : ∀ w u, Nv x k u w → Calls Tryd.prog 34 #[u] w (Gives (NN (rt x)) w) := by
  rintro w u ⟨p, n, c, xs, rfl, h, rfl, hn⟩
  refine (root_c w p n c xs h (by omega)).mono ?_
  rintro e w' ⟨R, r, cr, rfl, A, hR⟩
  rw [rt_eq hR]
  exact ⟨_, rfl, A.below, res_nn A⟩

theorem root_split (k R X : Nat) : (0 < k ∧ (R + 2 ^ (k - 1)) * (R + 2 ^ (k - 1)) ≤ X) ∨ (0 < k ∧ X < (R + 2 ^ (k - 1)) * (R + 2 ^ (k - 1))) ∨ ¬ 0 < k := by omega
theorem cmpN_le {x y : Nat} (h : x ≤ y) : cmpN x y ≤ 0 := by unfold cmpN; split; omega; split <;> omega
theorem cmpN_gt {x y : Nat} (h : y < x) : 0 < cmpN x y := by unfold cmpN; rw [if_neg (by omega), if_neg (by omega)]; omega

theorem rt_le (X : Nat) : rt X ≤ X := by
  unfold rt
  split
  · rename_i h
    have := (Classical.choose_spec h).1
    generalize Classical.choose h = R at this ⊢
    rcases Nat.eq_zero_or_pos R with h0 | h0
    · omega
    · exact Nat.le_trans (Nat.le_mul_of_pos_right R h0) this
  · omega
theorem rt_len {w : World} {p : Option Addr} {n c : Nat} {xs : List Nat} (h : Sl w p n c xs) : (digs (rt (val xs))).length ≤ n := Nat.le_trans (digs_length_mono (rt_le _)) h.dl

set_option maxHeartbeats 400000 in
theorem zroot_w0 (w : World) (s : Bool) (p : Option Addr) (n c : Nat) (xs : List Nat) (h : Sl w p n c xs) (A : Int) (eA : sg s (val xs) = A) (hn : n ≤ 1048576) (hA : A.sign < 0) :
    Calls Tryd.prog 14 #[.agg #[.bool s, .slice p n c]] w (Gives (TWO (IS (.agg #[.bool false, .slice none 0 0])) (IS (.int .i64 21))) w) := by
  refine calls_sta (sl := [(0, (Zx s p n c xs))]) Tryd.func14 rfl Tryd.ntmps14 (by simp) (args_cons rfl (zx_has h) args_nil) ?_
  intro a0 S0
  refine wp_stmt_seq [.new (.box 24 (Zx s p n c xs)),
      .new (.box 24 (Is (.agg #[.bool false, .slice none 0 0]))),
      .val (Is (.int .i64 0))] [.inl 0, .inl 1] [.inl 2] follows S0 rfl (by kernel_rfl) ?_ ?_
  · refine ⟨⟨⟨trivial, ?_⟩, ?_⟩, ?_⟩
    · exact owe_box rfl (wants_all rfl) rfl (opnd_slot 0 0 rfl (by kernel_rfl)) rfl (fun ρ w h => box_int shp_zx ρ _ _ w h)
    · exact owe_new rfl (wants_all rfl) rfl rfl (fun ρ w => alloc_int ρ _ w)
    · exact owe_move rfl (wants_all rfl) (Or.inr rfl) (opnd_const _) rfl
  intro B1 a1 W1 S1
  replace S1 : Sta w 12 [(1, (.box 24 (Zx s p n c xs))), (2, (.box 24 (Is (.agg #[.bool false, .slice none 0 0]))))] [(3, (Is (.int .i64 0)))] B1 a1 W1 := S1
  refine wp_seq ?_
  refine wp_stmt_seq [.val (Zx s p n c xs),
      .val (Is (.int .i64 (A).sign)),
      .val (Is (.bool true))] [.inr 0, .inr 1] [.inl 2, .inr 0] follows S1 rfl (by kernel_rfl) ?_ ?_
  · refine ⟨⟨⟨trivial, ?_⟩, ?_⟩, ?_⟩
    · exact owe_load rfl (wants_all rfl) rfl (k := 0) rfl (by kernel_rfl) (loads_of strct_int shp_zx) rfl
    · exact owe_call1 rfl (wants_all rfl) rfl (opnd_op 0 4 (by kernel_rfl) rfl) (fresh_is _) rfl (fun args w => by go_simp) (fun w u h1 => g_zsign (by omega) w u ((zx_zv' eA (Nat.le_refl _)) _ _ h1))
    · exact owe_bin rfl (wants_all rfl) rfl (opnd_op 1 5 (by kernel_rfl) rfl) (opnd_const _) rfl (fun ρ w h1 h2 => by exact run_lss_int_t ρ _ _ _ w _ _ hA h1 h2)
  intro B2 a2 W2 S2
  replace S2 : Sta w 12 [(1, (.box 24 (Zx s p n c xs))), (2, (.box 24 (Is (.agg #[.bool false, .slice none 0 0]))))] [(6, (Is (.bool true))), (3, (Is (.int .i64 0)))] B2 a2 W2 := S2
  refine wp_cond_true (S2.bool 0 6 rfl) ?_
  refine wp_stmt_seq [.val (Is (.agg #[.bool false, .slice none 0 0])),
      .put (.inl 2) (.box 24 (Is (.agg #[.bool false, .slice none 0 0]))),
      .val (Is (.int .i64 21))] [.inr 0, .inr 1] [.inl 2, .inr 0] follows S2 rfl (by kernel_rfl) ?_ ?_
  · refine ⟨⟨⟨trivial, ?_⟩, ?_⟩, ?_⟩
    · exact owe_build_int rfl (wants_all rfl) rfl rfl
    · exact owe_set rfl (wants_all rfl) rfl (k := 1) rfl (by kernel_rfl) (opnd_op 0 7 (by kernel_rfl) rfl) (stores_of strct_int shp_z0 shp_z0) rfl
    · exact owe_move rfl (wants_all rfl) (Or.inr rfl) (opnd_const _) rfl
  intro B3 a3 W3 S3
  replace S3 : Sta w 12 [(1, (.box 24 (Zx s p n c xs))), (2, (.box 24 (Is (.agg #[.bool false, .slice none 0 0]))))] [(3, (Is (.int .i64 21))), (6, (Is (.bool true)))] B3 a3 W3 := S3
  refine wp_ret ?_
  refine thenR ?_
  exact end_two S3 rfl (res_cell S3 1 2 rfl strct_int shp_z0) (res_tmp S3 0 3 rfl)

set_option maxHeartbeats 400000 in
theorem zroot_w1 (w : World) (s : Bool) (p : Option Addr) (n c : Nat) (xs : List Nat) (h : Sl w p n c xs) (A : Int) (eA : sg s (val xs) = A) (hn : n ≤ 1048576) (hA : 0 ≤ A.sign) :
    Calls Tryd.prog 14 #[.agg #[.bool s, .slice p n c]] w (Gives (TWO (ZN (sg false (rt (val xs)))) (IS (.int .i64 0))) w) := by
  have drt : (digs (rt (val xs))).length ≤ n := rt_len h
  refine calls_sta (sl := [(0, (Zx s p n c xs))]) Tryd.func14 rfl Tryd.ntmps14 (by simp) (args_cons rfl (zx_has h) args_nil) ?_
  intro a0 S0
  refine wp_stmt_seq [.new (.box 24 (Zx s p n c xs)),
      .new (.box 24 (Is (.agg #[.bool false, .slice none 0 0]))),
      .val (Is (.int .i64 0))] [.inl 0, .inl 1] [.inl 2] follows S0 rfl (by kernel_rfl) ?_ ?_
  · refine ⟨⟨⟨trivial, ?_⟩, ?_⟩, ?_⟩
    · exact owe_box rfl (wants_all rfl) rfl (opnd_slot 0 0 rfl (by kernel_rfl)) rfl (fun ρ w h => box_int shp_zx ρ _ _ w h)
    · exact owe_new rfl (wants_all rfl) rfl rfl (fun ρ w => alloc_int ρ _ w)
    · exact owe_move rfl (wants_all rfl) (Or.inr rfl) (opnd_const _) rfl
  intro B1 a1 W1 S1
  replace S1 : Sta w 12 [(1, (.box 24 (Zx s p n c xs))), (2, (.box 24 (Is (.agg #[.bool false, .slice none 0 0]))))] [(3, (Is (.int .i64 0)))] B1 a1 W1 := S1
  refine wp_seq ?_
  refine wp_stmt_seq [.val (Zx s p n c xs),
      .val (Is (.int .i64 (A).sign)),
      .val (Is (.bool false))] [.inr 0, .inr 1] [.inl 2, .inr 0] follows S1 rfl (by kernel_rfl) ?_ ?_
  · refine ⟨⟨⟨trivial, ?_⟩, ?_⟩, ?_⟩
    · exact owe_load rfl (wants_all rfl) rfl (k := 0) rfl (by kernel_rfl) (loads_of strct_int shp_zx) rfl
    · exact owe_call1 rfl (wants_all rfl) rfl (opnd_op 0 4 (by kernel_rfl) rfl) (fresh_is _) rfl (fun args w => by go_simp) (fun w u h1 => g_zsign (by omega) w u ((zx_zv' eA (Nat.le_refl _)) _ _ h1))
    · exact owe_bin rfl (wants_all rfl) rfl (opnd_op 1 5 (by kernel_rfl) rfl) (opnd_const _) rfl (fun ρ w h1 h2 => by exact run_lss_int_f ρ _ _ _ w _ _ hA h1 h2)
  intro B2 a2 W2 S2
  replace S2 : Sta w 12 [(1, (.box 24 (Zx s p n c xs))), (2, (.box 24 (Is (.agg #[.bool false, .slice none 0 0]))))] [(6, (Is (.bool false))), (3, (Is (.int .i64 0)))] B2 a2 W2 := S2
  refine wp_cond_false (S2.bool 0 6 rfl) ?_
  refine wp_skip ?_
  refine thenN ?_
  refine wp_stmt_seq [.val (Part a2 1 1),
      .val (Nx p n c xs),
      .val ((NN (rt (val xs))) w.heap.size),
      .val ((ZN (sg false (rt (val xs)))) w.heap.size),
      .put (.inl 2) (.box 24 ((ZN (sg false (rt (val xs)))) w.heap.size)),
      .val (Is (.int .i64 0))] [.inr 0, .inr 1] [.inl 5, .inr 0] follows S2 rfl (by kernel_rfl) ?_ ?_
  · refine ⟨⟨⟨⟨⟨⟨trivial, ?_⟩, ?_⟩, ?_⟩, ?_⟩, ?_⟩, ?_⟩
    · exact owe_part rfl (wants_all rfl) rfl (k := 0) rfl (by kernel_rfl) rfl (fun ρ w b h => part_int1 ρ _ _ w b 0 h)
    · exact owe_pload rfl (wants_all rfl) rfl (opnd_op 0 8 (by kernel_rfl) rfl) (k := 0) rfl (by kernel_rfl) rfl (fun ρ w b u h1 h2 h3 => pload_mag zx_mag ρ _ _ w b u h1 h2 h3)
    · exact owe_call1 rfl (wants_all rfl) rfl (opnd_op 1 9 (by kernel_rfl) rfl) (fresh_nn _) rfl (fun args w => by go_simp) (fun w u h1 => g_root (by omega) w u ((nx_nv (Nat.le_refl _)) _ _ h1))
    · exact owe_callF2 rfl (wants_all rfl) rfl (opnd_const _) (opnd_op 2 10 (by kernel_rfl) rfl) rfl (fun args w => by go_simp) g_signed
    · exact owe_set rfl (wants_all rfl) rfl (k := 1) rfl (by kernel_rfl) (opnd_op 3 11 (by kernel_rfl) rfl) (stores_of strct_int shp_z0 shp_zn) rfl
    · exact owe_move rfl (wants_all rfl) (Or.inr rfl) (opnd_const _) rfl
  intro B3 a3 W3 S3
  replace S3 : Sta w 12 [(1, (.box 24 (Zx s p n c xs))), (2, (.box 24 ((ZN (sg false (rt (val xs)))) w.heap.size)))] [(3, (Is (.int .i64 0))), (6, (Is (.bool false)))] B3 a3 W3 := S3
  refine wp_ret ?_
  exact end_two S3 rfl (res_cell S3 1 2 rfl strct_int shp_zn) (res_tmp S3 0 3 rfl)

/-- What Root says. -/
noncomputable def rtE (A : Int) : Int := if A.sign < 0 then 21 else 0
noncomputable def rtV (A : Int) : Int := if A.sign < 0 then 0 else sg false (rt A.natAbs)

theorem g_zroot {A : Int} {k : Nat} (hk : k ≤ 1048576) : ∀ w u, Zv A k u w → Calls Tryd.prog 14 #[u] w (Gives (TWO (ZN (rtV A)) (IS (.int .i64 (rtE A)))) w) := by
  rintro w u ⟨s, p, n, c, xs, rfl, h, rfl, hn⟩
  unfold rtV rtE
  by_cases hA : (sg s (val xs)).sign < 0
  · rw [if_pos hA, if_pos hA]
    exact Gives.two (zroot_w0 w s p n c xs h _ rfl (by omega) hA) zero_zn
  · rw [if_neg hA, if_neg hA, sg_abs]
    exact zroot_w1 w s p n c xs h _ rfl (by omega) (by omega)

set_option maxHeartbeats 400000 in
theorem zbits_w (w : World) (s : Bool) (p : Option Addr) (n c : Nat) (xs : List Nat) (h : Sl w p n c xs) (hn : n ≤ 1048576) :
    Calls Tryd.prog 12 #[.agg #[.bool s, .slice p n c]] w (Gives (IS (.int .i64 (Go.bitLen (val xs) : Nat))) w) := by
  refine calls_sta (sl := [(0, (Zx s p n c xs))]) Tryd.func12 rfl Tryd.ntmps12 (by simp) (args_cons rfl (zx_has h) args_nil) ?_
  intro a0 S0
  refine wp_stmt_seq [.new (.box 24 (Zx s p n c xs)),
      .val (Is (.int .i64 0))] [.inl 0] [.inl 1] follows S0 rfl (by kernel_rfl) ?_ ?_
  · refine ⟨⟨trivial, ?_⟩, ?_⟩
    · exact owe_box rfl (wants_all rfl) rfl (opnd_slot 0 0 rfl (by kernel_rfl)) rfl (fun ρ w h => box_int shp_zx ρ _ _ w h)
    · exact owe_move rfl (wants_all rfl) (Or.inr rfl) (opnd_const _) rfl
  intro B1 a1 W1 S1
  replace S1 : Sta w 6 [(1, (.box 24 (Zx s p n c xs)))] [(2, (Is (.int .i64 0)))] B1 a1 W1 := S1
  refine wp_stmt_seq [.val (Part a1 1 1),
      .val (Nx p n c xs),
      .val (Is (.int .i64 (Go.bitLen (val xs) : Nat))),
      .val (Is (.int .i64 (Go.bitLen (val xs) : Nat)))] [.inr 0] [.inl 3] follows S1 rfl (by kernel_rfl) ?_ ?_
  · refine ⟨⟨⟨⟨trivial, ?_⟩, ?_⟩, ?_⟩, ?_⟩
    · exact owe_part rfl (wants_all rfl) rfl (k := 0) rfl (by kernel_rfl) rfl (fun ρ w b h => part_int1 ρ _ _ w b 0 h)
    · exact owe_pload rfl (wants_all rfl) rfl (opnd_op 0 3 (by kernel_rfl) rfl) (k := 0) rfl (by kernel_rfl) rfl (fun ρ w b u h1 h2 h3 => pload_mag zx_mag ρ _ _ w b u h1 h2 h3)
    · exact owe_call1 rfl (wants_all rfl) rfl (opnd_op 1 4 (by kernel_rfl) rfl) (fresh_is _) rfl (fun args w => by go_simp) (fun w u h1 => g_bits (by omega) w u ((nx_nv (Nat.le_refl _)) _ _ h1))
    · exact owe_move rfl (wants_all rfl) (Or.inr rfl) (opnd_op 2 5 (by kernel_rfl) rfl) rfl
  intro B2 a2 W2 S2
  replace S2 : Sta w 6 [(1, (.box 24 (Zx s p n c xs)))] [(2, (Is (.int .i64 (Go.bitLen (val xs) : Nat))))] B2 a2 W2 := S2
  refine wp_ret ?_
  exact end_one S2 rfl (res_tmp S2 0 2 rfl)

theorem g_zbits {A : Int} {k : Nat} (hk : k ≤ 1048576) : ∀ w u, Zv A k u w → Calls Tryd.prog 12 #[u] w (Gives (IS (.int .i64 (Go.bitLen A.natAbs : Nat))) w) := by
  rintro w u ⟨s, p, n, c, xs, rfl, h, rfl, hn⟩
  rw [sg_abs]
  exact zbits_w w s p n c xs h (by omega)

set_option maxHeartbeats 400000 in
theorem ztop_true (w : World) (s : Bool) (p : Option Addr) (n c : Nat) (xs : List Nat) (h : Sl w p n c xs) (A : Int) (eA : sg s (val xs) = A) (hn : n ≤ 1048576) (hT : T32 w) (bl e M : Nat) (hbl : Go.bitLen A.natAbs = bl) (hbb : bl ≤ 33554432) (he : (bl ≤ 53 ∧ e = 0) ∨ (53 ≤ bl ∧ e = bl - 53)) (hM : val xs / 2 ^ ((e : Nat) : Int).toNat = M) (hM2 : (digs M).length ≤ 2) (hI : ((e : Nat) : Int) ≤ ((tz (val xs) : Nat) : Int)) :
    Calls Tryd.prog 20 #[.agg #[.bool s, .slice p n c]] w (Gives (THREE (IS (.int .u64 M)) (IS (.int .i64 e)) (IS (.bool true))) w) := by
  refine calls_sta (sl := [(0, (Zx s p n c xs))]) Tryd.func20 rfl Tryd.ntmps20 (by simp) (args_cons rfl (zx_has h) args_nil) ?_
  intro a0 S0
  replace S0 : Sta w 27 [] [(0, (Zx s p n c xs)), (0, TB)] (fun _ => False) a0 w := S0.more 0 (tb_has hT)
  refine wp_stmt_seq [.new (.box 24 (Zx s p n c xs)),
      .val (Is (.int .u64 0)),
      .val (Is (.int .i64 0)),
      .val (Is (.bool false))] [.inl 0] [.inl 1, .inl 2, .inl 3, .inr 1] follows S0 rfl (by kernel_rfl) ?_ ?_
  · refine ⟨⟨⟨⟨trivial, ?_⟩, ?_⟩, ?_⟩, ?_⟩
    · exact owe_box rfl (wants_all rfl) rfl (opnd_slot 0 0 rfl (by kernel_rfl)) rfl (fun ρ w h => box_int shp_zx ρ _ _ w h)
    · exact owe_move rfl (wants_all rfl) (Or.inr rfl) (opnd_const _) rfl
    · exact owe_move rfl (wants_all rfl) (Or.inr rfl) (opnd_const _) rfl
    · exact owe_move rfl (wants_all rfl) (Or.inr rfl) (opnd_const _) rfl
  intro B1 a1 W1 S1
  replace S1 : Sta w 27 [(1, (.box 24 (Zx s p n c xs)))] [(2, (Is (.int .u64 0))), (3, (Is (.int .i64 0))), (4, (Is (.bool false))), (0, TB)] B1 a1 W1 := S1
  refine wp_stmt_seq [.val (Zx s p n c xs),
      .val (Is (.int .i64 bl)),
      .val (Is (.int .i64 ((bl : Int) - 53))),
      .val (Is (.int .i64 e)),
      .val (Is (.int .i64 e))] [.inr 0] [.inl 4, .inr 0, .inr 1, .inr 2, .inr 3] follows S1 rfl (by kernel_rfl) ?_ ?_
  · refine ⟨⟨⟨⟨⟨trivial, ?_⟩, ?_⟩, ?_⟩, ?_⟩, ?_⟩
    · exact owe_load rfl (wants_all rfl) rfl (k := 0) rfl (by kernel_rfl) (loads_of strct_int shp_zx) rfl
    · exact owe_call1 rfl (wants_all rfl) rfl (opnd_op 0 8 (by kernel_rfl) rfl) (fresh_is _) rfl (fun args w => by go_simp) (fun w u0 h0 => Gives.cast ((fun w u h1 => g_zbits (by omega) w u ((zx_zv' eA (Nat.le_refl _)) _ _ h1)) w u0 h0) (by rw [hbl]))
    · exact owe_bin rfl (wants_all rfl) rfl (opnd_op 1 9 (by kernel_rfl) rfl) (opnd_const _) rfl (fun ρ w h1 h2 => by exact run_sub_int ρ _ _ _ w _ _ _ ⟨rfl, by omega, by omega⟩ h1 h2)
    · exact owe_max rfl (wants_all rfl) rfl (opnd_const _) (opnd_op 2 10 (by kernel_rfl) rfl) rfl (fun ρ w h1 h2 => run_max_int ρ _ _ _ w _ _ _ (by omega) h1 h2)
    · exact owe_move rfl (wants_all rfl) (Or.inr rfl) (opnd_op 3 11 (by kernel_rfl) rfl) rfl
  intro B2 a2 W2 S2
  replace S2 : Sta w 27 [(1, (.box 24 (Zx s p n c xs)))] [(5, (Is (.int .i64 e))), (2, (Is (.int .u64 0))), (3, (Is (.int .i64 0))), (4, (Is (.bool false))), (0, TB)] B2 a2 W2 := S2
  refine wp_stmt_seq [.val (Part a2 1 1),
      .val (Nx p n c xs),
      .val (Is (.int .i64 e)),
      .val ((TWO (NN (M)) (IS (.int .i64 0))) w.heap.size),
      .val ((TWO (NN (M)) (IS (.int .i64 0))) w.heap.size),
      .val ((NN (M)) w.heap.size),
      .val (Is (.int .i64 0)),
      .val ((NN (M)) w.heap.size),
      .val (Is (.int .i64 0))] [.inr 0] [.inl 7, .inr 0, .inr 1, .inr 2, .inr 3, .inr 4] follows S2 rfl (by kernel_rfl) ?_ ?_
  · refine ⟨⟨⟨⟨⟨⟨⟨⟨⟨trivial, ?_⟩, ?_⟩, ?_⟩, ?_⟩, ?_⟩, ?_⟩, ?_⟩, ?_⟩, ?_⟩
    · exact owe_part rfl (wants_all rfl) rfl (k := 0) rfl (by kernel_rfl) rfl (fun ρ w b h => part_int1 ρ _ _ w b 0 h)
    · exact owe_pload rfl (wants_all rfl) rfl (opnd_op 0 13 (by kernel_rfl) rfl) (k := 0) rfl (by kernel_rfl) rfl (fun ρ w b u h1 h2 h3 => pload_mag zx_mag ρ _ _ w b u h1 h2 h3)
    · exact owe_move rfl (wants_all rfl) (Or.inl rfl) (opnd_slot 0 5 rfl (by kernel_rfl)) rfl
    · exact owe_call2 rfl (wants_all rfl) rfl (opnd_op 1 14 (by kernel_rfl) rfl) (opnd_op 2 15 (by kernel_rfl) rfl) (fresh_two (fresh_nn _) (fresh_is _)) rfl (fun args w => by go_simp) (fun w u0 u1 h0 h1 => Gives.cast ((fun w u v h1 h2 => g_shr (z := ((e : Nat) : Int)) (by omega) (by omega) (by omega) w u v ((nx_nv (Nat.le_refl _)) _ _ h1) h2) w u0 u1 h0 h1) (by rw [hM]))
    · exact owe_move rfl (wants_all rfl) (Or.inl rfl) (opnd_op 3 16 (by kernel_rfl) rfl) rfl
    · exact owe_ext2 rfl (wants_all rfl) rfl (opnd_op 4 12 (by kernel_rfl) rfl) (Or.inl ⟨rfl, rfl⟩) rfl
    · exact owe_ext2 rfl (wants_all rfl) rfl (opnd_op 4 12 (by kernel_rfl) rfl) (Or.inr ⟨rfl, rfl⟩) rfl
    · exact owe_move rfl (wants_all rfl) (Or.inr rfl) (opnd_op 5 17 (by kernel_rfl) rfl) rfl
    · exact owe_move rfl (wants_all rfl) (Or.inr rfl) (opnd_op 6 18 (by kernel_rfl) rfl) rfl
  intro B3 a3 W3 S3
  replace S3 : Sta w 27 [(1, (.box 24 (Zx s p n c xs)))] [(6, ((NN (M)) w.heap.size)), (5, (Is (.int .i64 e))), (2, (Is (.int .u64 0))), (3, (Is (.int .i64 0))), (4, (Is (.bool false))), (0, TB)] B3 a3 W3 := S3
  refine wp_stmt_seq [.val ((NN (M)) w.heap.size),
      .val (Is (.int .u64 M)),
      .val (Is (.int .i64 e)),
      .val (Part a3 1 1),
      .val (Nx p n c xs),
      .val (Is (.int .i64 (tz (val xs) : Nat))),
      .val (Is (.int .i64 e)),
      .val (Is (.bool true)),
      .val (Is (.int .u64 M)),
      .val (Is (.int .i64 e)),
      .val (Is (.bool true))] [.inr 0] [.inl 8, .inl 9, .inl 10, .inr 1, .inr 5] follows S3 rfl (by kernel_rfl) ?_ ?_
  · refine ⟨⟨⟨⟨⟨⟨⟨⟨⟨⟨⟨trivial, ?_⟩, ?_⟩, ?_⟩, ?_⟩, ?_⟩, ?_⟩, ?_⟩, ?_⟩, ?_⟩, ?_⟩, ?_⟩
    · exact owe_move rfl (wants_all rfl) (Or.inl rfl) (opnd_slot 0 6 rfl (by kernel_rfl)) rfl
    · exact owe_call1 rfl (wants_all rfl) rfl (opnd_op 0 19 (by kernel_rfl) rfl) (fresh_is _) rfl (fun args w => by go_simp) (fun w u h1 => g_word (by omega) hM2 w u ((nn_nv hM2) _ _ h1))
    · exact owe_move rfl (wants_all rfl) (Or.inl rfl) (opnd_slot 1 5 rfl (by kernel_rfl)) rfl
    · exact owe_part rfl (wants_all rfl) rfl (k := 0) rfl (by kernel_rfl) rfl (fun ρ w b h => part_int1 ρ _ _ w b 0 h)
    · exact owe_pload rfl (wants_all rfl) rfl (opnd_op 3 22 (by kernel_rfl) rfl) (k := 0) rfl (by kernel_rfl) rfl (fun ρ w b u h1 h2 h3 => pload_mag zx_mag ρ _ _ w b u h1 h2 h3)
    · exact owe_call1T rfl (wants_all rfl) rfl (opnd_op 4 23 (by kernel_rfl) rfl) (opnd_slot 5 0 rfl (by kernel_rfl)) (fresh_is _) rfl (fun args w => by go_simp) (fun w u hT h1 => g_noughts (by omega) w u hT ((nx_nv (Nat.le_refl _)) _ _ h1))
    · exact owe_move rfl (wants_all rfl) (Or.inl rfl) (opnd_slot 1 5 rfl (by kernel_rfl)) rfl
    · exact owe_bin rfl (wants_all rfl) rfl (opnd_op 5 24 (by kernel_rfl) rfl) (opnd_op 6 25 (by kernel_rfl) rfl) rfl (fun ρ w h1 h2 => by exact run_geq_int_t ρ _ _ _ w _ _ hI h1 h2)
    · exact owe_move rfl (wants_all rfl) (Or.inr rfl) (opnd_op 1 20 (by kernel_rfl) rfl) rfl
    · exact owe_move rfl (wants_all rfl) (Or.inr rfl) (opnd_op 2 21 (by kernel_rfl) rfl) rfl
    · exact owe_move rfl (wants_all rfl) (Or.inr rfl) (opnd_op 7 26 (by kernel_rfl) rfl) rfl
  intro B4 a4 W4 S4
  replace S4 : Sta w 27 [(1, (.box 24 (Zx s p n c xs)))] [(2, (Is (.int .u64 M))), (3, (Is (.int .i64 e))), (4, (Is (.bool true))), (5, (Is (.int .i64 e))), (0, TB)] B4 a4 W4 := S4
  refine wp_ret ?_
  exact end_three S4 rfl (res_tmp S4 0 2 rfl) (res_tmp S4 1 3 rfl) (res_tmp S4 2 4 rfl)

set_option maxHeartbeats 400000 in
theorem ztop_false (w : World) (s : Bool) (p : Option Addr) (n c : Nat) (xs : List Nat) (h : Sl w p n c xs) (A : Int) (eA : sg s (val xs) = A) (hn : n ≤ 1048576) (hT : T32 w) (bl e M : Nat) (hbl : Go.bitLen A.natAbs = bl) (hbb : bl ≤ 33554432) (he : (bl ≤ 53 ∧ e = 0) ∨ (53 ≤ bl ∧ e = bl - 53)) (hM : val xs / 2 ^ ((e : Nat) : Int).toNat = M) (hM2 : (digs M).length ≤ 2) (hI : ((tz (val xs) : Nat) : Int) < ((e : Nat) : Int)) :
    Calls Tryd.prog 20 #[.agg #[.bool s, .slice p n c]] w (Gives (THREE (IS (.int .u64 M)) (IS (.int .i64 e)) (IS (.bool false))) w) := by
  refine calls_sta (sl := [(0, (Zx s p n c xs))]) Tryd.func20 rfl Tryd.ntmps20 (by simp) (args_cons rfl (zx_has h) args_nil) ?_
  intro a0 S0
  replace S0 : Sta w 27 [] [(0, (Zx s p n c xs)), (0, TB)] (fun _ => False) a0 w := S0.more 0 (tb_has hT)
  refine wp_stmt_seq [.new (.box 24 (Zx s p n c xs)),
      .val (Is (.int .u64 0)),
      .val (Is (.int .i64 0)),
      .val (Is (.bool false))] [.inl 0] [.inl 1, .inl 2, .inl 3, .inr 1] follows S0 rfl (by kernel_rfl) ?_ ?_
  · refine ⟨⟨⟨⟨trivial, ?_⟩, ?_⟩, ?_⟩, ?_⟩
    · exact owe_box rfl (wants_all rfl) rfl (opnd_slot 0 0 rfl (by kernel_rfl)) rfl (fun ρ w h => box_int shp_zx ρ _ _ w h)
    · exact owe_move rfl (wants_all rfl) (Or.inr rfl) (opnd_const _) rfl
    · exact owe_move rfl (wants_all rfl) (Or.inr rfl) (opnd_const _) rfl
    · exact owe_move rfl (wants_all rfl) (Or.inr rfl) (opnd_const _) rfl
  intro B1 a1 W1 S1
  replace S1 : Sta w 27 [(1, (.box 24 (Zx s p n c xs)))] [(2, (Is (.int .u64 0))), (3, (Is (.int .i64 0))), (4, (Is (.bool false))), (0, TB)] B1 a1 W1 := S1
  refine wp_stmt_seq [.val (Zx s p n c xs),
      .val (Is (.int .i64 bl)),
      .val (Is (.int .i64 ((bl : Int) - 53))),
      .val (Is (.int .i64 e)),
      .val (Is (.int .i64 e))] [.inr 0] [.inl 4, .inr 0, .inr 1, .inr 2, .inr 3] follows S1 rfl (by kernel_rfl) ?_ ?_
  · refine ⟨⟨⟨⟨⟨trivial, ?_⟩, ?_⟩, ?_⟩, ?_⟩, ?_⟩
    · exact owe_load rfl (wants_all rfl) rfl (k := 0) rfl (by kernel_rfl) (loads_of strct_int shp_zx) rfl
    · exact owe_call1 rfl (wants_all rfl) rfl (opnd_op 0 8 (by kernel_rfl) rfl) (fresh_is _) rfl (fun args w => by go_simp) (fun w u0 h0 => Gives.cast ((fun w u h1 => g_zbits (by omega) w u ((zx_zv' eA (Nat.le_refl _)) _ _ h1)) w u0 h0) (by rw [hbl]))
    · exact owe_bin rfl (wants_all rfl) rfl (opnd_op 1 9 (by kernel_rfl) rfl) (opnd_const _) rfl (fun ρ w h1 h2 => by exact run_sub_int ρ _ _ _ w _ _ _ ⟨rfl, by omega, by omega⟩ h1 h2)
    · exact owe_max rfl (wants_all rfl) rfl (opnd_const _) (opnd_op 2 10 (by kernel_rfl) rfl) rfl (fun ρ w h1 h2 => run_max_int ρ _ _ _ w _ _ _ (by omega) h1 h2)
    · exact owe_move rfl (wants_all rfl) (Or.inr rfl) (opnd_op 3 11 (by kernel_rfl) rfl) rfl
  intro B2 a2 W2 S2
  replace S2 : Sta w 27 [(1, (.box 24 (Zx s p n c xs)))] [(5, (Is (.int .i64 e))), (2, (Is (.int .u64 0))), (3, (Is (.int .i64 0))), (4, (Is (.bool false))), (0, TB)] B2 a2 W2 := S2
  refine wp_stmt_seq [.val (Part a2 1 1),
      .val (Nx p n c xs),
      .val (Is (.int .i64 e)),
      .val ((TWO (NN (M)) (IS (.int .i64 0))) w.heap.size),
      .val ((TWO (NN (M)) (IS (.int .i64 0))) w.heap.size),
      .val ((NN (M)) w.heap.size),
      .val (Is (.int .i64 0)),
      .val ((NN (M)) w.heap.size),
      .val (Is (.int .i64 0))] [.inr 0] [.inl 7, .inr 0, .inr 1, .inr 2, .inr 3, .inr 4] follows S2 rfl (by kernel_rfl) ?_ ?_
  · refine ⟨⟨⟨⟨⟨⟨⟨⟨⟨trivial, ?_⟩, ?_⟩, ?_⟩, ?_⟩, ?_⟩, ?_⟩, ?_⟩, ?_⟩, ?_⟩
    · exact owe_part rfl (wants_all rfl) rfl (k := 0) rfl (by kernel_rfl) rfl (fun ρ w b h => part_int1 ρ _ _ w b 0 h)
    · exact owe_pload rfl (wants_all rfl) rfl (opnd_op 0 13 (by kernel_rfl) rfl) (k := 0) rfl (by kernel_rfl) rfl (fun ρ w b u h1 h2 h3 => pload_mag zx_mag ρ _ _ w b u h1 h2 h3)
    · exact owe_move rfl (wants_all rfl) (Or.inl rfl) (opnd_slot 0 5 rfl (by kernel_rfl)) rfl
    · exact owe_call2 rfl (wants_all rfl) rfl (opnd_op 1 14 (by kernel_rfl) rfl) (opnd_op 2 15 (by kernel_rfl) rfl) (fresh_two (fresh_nn _) (fresh_is _)) rfl (fun args w => by go_simp) (fun w u0 u1 h0 h1 => Gives.cast ((fun w u v h1 h2 => g_shr (z := ((e : Nat) : Int)) (by omega) (by omega) (by omega) w u v ((nx_nv (Nat.le_refl _)) _ _ h1) h2) w u0 u1 h0 h1) (by rw [hM]))
    · exact owe_move rfl (wants_all rfl) (Or.inl rfl) (opnd_op 3 16 (by kernel_rfl) rfl) rfl
    · exact owe_ext2 rfl (wants_all rfl) rfl (opnd_op 4 12 (by kernel_rfl) rfl) (Or.inl ⟨rfl, rfl⟩) rfl
    · exact owe_ext2 rfl (wants_all rfl) rfl (opnd_op 4 12 (by kernel_rfl) rfl) (Or.inr ⟨rfl, rfl⟩) rfl
    · exact owe_move rfl (wants_all rfl) (Or.inr rfl) (opnd_op 5 17 (by kernel_rfl) rfl) rfl
    · exact owe_move rfl (wants_all rfl) (Or.inr rfl) (opnd_op 6 18 (by kernel_rfl) rfl) rfl
  intro B3 a3 W3 S3
  replace S3 : Sta w 27 [(1, (.box 24 (Zx s p n c xs)))] [(6, ((NN (M)) w.heap.size)), (5, (Is (.int .i64 e))), (2, (Is (.int .u64 0))), (3, (Is (.int .i64 0))), (4, (Is (.bool false))), (0, TB)] B3 a3 W3 := S3
  refine wp_stmt_seq [.val ((NN (M)) w.heap.size),
      .val (Is (.int .u64 M)),
      .val (Is (.int .i64 e)),
      .val (Part a3 1 1),
      .val (Nx p n c xs),
      .val (Is (.int .i64 (tz (val xs) : Nat))),
      .val (Is (.int .i64 e)),
      .val (Is (.bool false)),
      .val (Is (.int .u64 M)),
      .val (Is (.int .i64 e)),
      .val (Is (.bool false))] [.inr 0] [.inl 8, .inl 9, .inl 10, .inr 1, .inr 5] follows S3 rfl (by kernel_rfl) ?_ ?_
  · refine ⟨⟨⟨⟨⟨⟨⟨⟨⟨⟨⟨trivial, ?_⟩, ?_⟩, ?_⟩, ?_⟩, ?_⟩, ?_⟩, ?_⟩, ?_⟩, ?_⟩, ?_⟩, ?_⟩
    · exact owe_move rfl (wants_all rfl) (Or.inl rfl) (opnd_slot 0 6 rfl (by kernel_rfl)) rfl
    · exact owe_call1 rfl (wants_all rfl) rfl (opnd_op 0 19 (by kernel_rfl) rfl) (fresh_is _) rfl (fun args w => by go_simp) (fun w u h1 => g_word (by omega) hM2 w u ((nn_nv hM2) _ _ h1))
    · exact owe_move rfl (wants_all rfl) (Or.inl rfl) (opnd_slot 1 5 rfl (by kernel_rfl)) rfl
    · exact owe_part rfl (wants_all rfl) rfl (k := 0) rfl (by kernel_rfl) rfl (fun ρ w b h => part_int1 ρ _ _ w b 0 h)
    · exact owe_pload rfl (wants_all rfl) rfl (opnd_op 3 22 (by kernel_rfl) rfl) (k := 0) rfl (by kernel_rfl) rfl (fun ρ w b u h1 h2 h3 => pload_mag zx_mag ρ _ _ w b u h1 h2 h3)
    · exact owe_call1T rfl (wants_all rfl) rfl (opnd_op 4 23 (by kernel_rfl) rfl) (opnd_slot 5 0 rfl (by kernel_rfl)) (fresh_is _) rfl (fun args w => by go_simp) (fun w u hT h1 => g_noughts (by omega) w u hT ((nx_nv (Nat.le_refl _)) _ _ h1))
    · exact owe_move rfl (wants_all rfl) (Or.inl rfl) (opnd_slot 1 5 rfl (by kernel_rfl)) rfl
    · exact owe_bin rfl (wants_all rfl) rfl (opnd_op 5 24 (by kernel_rfl) rfl) (opnd_op 6 25 (by kernel_rfl) rfl) rfl (fun ρ w h1 h2 => by exact run_geq_int_f ρ _ _ _ w _ _ hI h1 h2)
    · exact owe_move rfl (wants_all rfl) (Or.inr rfl) (opnd_op 1 20 (by kernel_rfl) rfl) rfl
    · exact owe_move rfl (wants_all rfl) (Or.inr rfl) (opnd_op 2 21 (by kernel_rfl) rfl) rfl
    · exact owe_move rfl (wants_all rfl) (Or.inr rfl) (opnd_op 7 26 (by kernel_rfl) rfl) rfl
  intro B4 a4 W4 S4
  replace S4 : Sta w 27 [(1, (.box 24 (Zx s p n c xs)))] [(2, (Is (.int .u64 M))), (3, (Is (.int .i64 e))), (4, (Is (.bool false))), (5, (Is (.int .i64 e))), (0, TB)] B4 a4 W4 := S4
  refine wp_ret ?_
  exact end_three S4 rfl (res_tmp S4 0 2 rfl) (res_tmp S4 1 3 rfl) (res_tmp S4 2 4 rfl)


/-- What Top says. -/
def tE (A : Int) : Nat := Go.bitLen A.natAbs - 53
def tM (A : Int) : Nat := A.natAbs / 2 ^ tE A
def tI (A : Int) : Bool := decide (A.natAbs % 2 ^ tE A = 0)
theorem tM_lt (A : Int) : tM A < 9007199254740992 := by
  unfold tM
  refine Nat.div_lt_of_lt_mul ?_
  rw [show (9007199254740992 : Nat) = 2 ^ 53 from rfl, ← Nat.pow_add]
  refine Nat.lt_of_lt_of_le (bitLen_spec A.natAbs).1 (Nat.pow_le_pow_right (by omega) ?_)
  unfold tE
  omega
theorem top_small {m : Nat} (h : m < 9223372036854775808) : smK (m : Int) = true ∧ smV (m : Int) = (m : Int) := sm_yes (by omega) (by omega)
theorem tM_two (A : Int) : (digs (tM A)).length ≤ 2 := by
  have := tM_lt A
  exact digs_length_le (by omega)
theorem tI_tz (A : Int) : A.natAbs % 2 ^ tE A = 0 ↔ tE A ≤ tz A.natAbs := by
  by_cases h0 : A.natAbs = 0
  · have e : tE A = 0 := by unfold tE; rw [h0]; rfl
    rw [e, h0]
    simp
  · exact (tz_ge h0).symm
theorem g_ztop {A : Int} {k : Nat} (hk : k ≤ 1048576) : ∀ w u, T32 w → Zv A k u w → Calls Tryd.prog 20 #[u] w (Gives (THREE (IS (.int .u64 (tM A : Nat))) (IS (.int .i64 (tE A : Nat))) (IS (.bool (tI A)))) w) := by
  rintro w u hT ⟨s, p, n, c, xs, rfl, h, eA, hn⟩
  have ex : A.natAbs = val xs := by rw [← eA, sg_abs]
  have h1 := bl_len h.dl
  have hM : val xs / 2 ^ ((tE A : Nat) : Int).toNat = tM A := by unfold tM; rw [Int.toNat_natCast, ex]
  have he : (Go.bitLen A.natAbs ≤ 53 ∧ tE A = 0) ∨ (53 ≤ Go.bitLen A.natAbs ∧ tE A = Go.bitLen A.natAbs - 53) := by unfold tE; omega
  by_cases hI : A.natAbs % 2 ^ tE A = 0
  · have h2 := (tI_tz A).1 hI
    have e3 : tI A = true := decide_eq_true hI
    rw [e3]
    exact ztop_true w s p n c xs h A eA (by omega) hT _ _ _ rfl (by rw [ex]; omega) he hM (tM_two A) (by rw [← ex]; omega)
  · have h2 : ¬ tE A ≤ tz A.natAbs := fun h => hI ((tI_tz A).2 h)
    have e3 : tI A = false := decide_eq_false hI
    rw [e3]
    exact ztop_false w s p n c xs h A eA (by omega) hT _ _ _ rfl (by rw [ex]; omega) he hM (tM_two A) (by rw [← ex]; omega)
theorem fl_nat (x K : Nat) : fl (x : Int) (2 ^ K) = ((x / 2 ^ K : Nat) : Int) := by
  have hp : (0 : Int) < 2 ^ K := Int.pow_pos (by decide)
  unfold fl
  rw [if_pos hp]
  simp
theorem rm_nat (x K : Nat) : rm (x : Int) (2 ^ K) = ((x % 2 ^ K : Nat) : Int) := by
  unfold rm
  rw [fl_nat]
  have e : ((2 ^ K * (x / 2 ^ K) + x % 2 ^ K : Nat) : Int) = (x : Int) := by rw [Nat.div_add_mod]
  have e2 : (2 : Int) ^ K = ((2 ^ K : Nat) : Int) := by simp
  rw [e2]
  rw [Int.natCast_add, Int.natCast_mul, Int.mul_comm] at e
  omega
end Go.Proofs.YtoplejeljmpcpaaDoor
