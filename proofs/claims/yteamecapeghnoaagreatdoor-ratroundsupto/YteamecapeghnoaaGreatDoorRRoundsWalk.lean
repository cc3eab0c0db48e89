/-
  RatRounds' walk: it returns true and writes nothing that was there.
-/
import Derived.Test.YteamecapeghnoaaGreatDoorRConts2
import Derived.Test.YteamecapeghnoaaGreatDoorRNearMath
namespace Go.Proofs.YteamecapeghnoaaGreatDoor
open Go Go.RowKit Nt
set_option linter.unusedSimpArgs false
set_option linter.unusedVariables false
set_option maxRecDepth 20000

set_option maxHeartbeats 400000 in
theorem rrfloor_w (w : World) (A : Int) (D k1 k2 : Nat) (u : Value) (h : Rv A (D : Int) k1 k2 u w) (hk1 : k1 ≤ 8388608) (hk2 : k2 ≤ 8388608) (hB : (D : Int) ≠ 0) :
    Calls Tryz.prog 17 #[u] w (Gives (ZN (fl A (D : Int))) w) := by
  refine calls_sta (sl := [(0, (PR (Zv A k1) (Zv ((D : Int)) k2)))]) Tryz.func17 rfl Tryz.ntmps17 (by simp) (args_cons rfl (rv_has h) args_nil) ?_
  intro a0 S0
  refine wp_stmt_seq [.new (.box 26 (PR (Zv A k1) (Zv ((D : Int)) k2))),
      .new (.box 24 (Is (.agg #[.bool false, .slice none 0 0])))] [.inl 0, .inl 1] [] follows S0 rfl (by kernel_rfl) ?_ ?_
  · refine ⟨⟨trivial, ?_⟩, ?_⟩
    · exact owe_box rfl (wants_all rfl) rfl (opnd_slot 0 0 rfl (by kernel_rfl)) rfl (fun ρ w h => box_rat (shp_pr shp_zv shp_zv) ρ _ _ w h)
    · exact owe_new rfl (wants_all rfl) rfl rfl (fun ρ w => alloc_int ρ _ w)
  intro B1 a1 W1 S1
  replace S1 : Sta w 14 [(1, (.box 26 (PR (Zv A k1) (Zv ((D : Int)) k2)))), (2, (.box 24 (Is (.agg #[.bool false, .slice none 0 0]))))] [] B1 a1 W1 := S1
  refine wp_stmt_seq [.val (Part a1 1 0),
      .val (Zv A k1),
      .val (Part a1 1 2),
      .val (Zv ((D : Int)) k2),
      .val ((TWO (ZN (fl A ((D : Int)))) (ZN (rm A ((D : Int))))) w.heap.size),
      .val ((TWO (ZN (fl A ((D : Int)))) (ZN (rm A ((D : Int))))) w.heap.size),
      .val ((ZN (fl A ((D : Int)))) w.heap.size),
      .val ((ZN (rm A ((D : Int)))) w.heap.size),
      .new (.box 24 (Is (.agg #[.bool false, .slice none 0 0]))),
      .new (.box 24 (Is (.agg #[.bool false, .slice none 0 0]))),
      .put (.inr 8) (.box 24 ((ZN (fl A ((D : Int)))) w.heap.size)),
      .put (.inr 9) (.box 24 ((ZN (rm A ((D : Int)))) w.heap.size))] [.inr 0, .inr 1, .inl 8, .inl 9] [] follows S1 rfl (by kernel_rfl) ?_ ?_
  · refine ⟨⟨⟨⟨⟨⟨⟨⟨⟨⟨⟨⟨trivial, ?_⟩, ?_⟩, ?_⟩, ?_⟩, ?_⟩, ?_⟩, ?_⟩, ?_⟩, ?_⟩, ?_⟩, ?_⟩, ?_⟩
    · exact owe_part rfl (wants_all rfl) rfl (k := 0) rfl (by kernel_rfl) rfl (fun ρ w b h => part_rat0 ρ _ _ w b 0 h)
    · exact owe_pload rfl (wants_all rfl) rfl (opnd_op 0 6 (by kernel_rfl) rfl) (k := 0) rfl (by kernel_rfl) rfl (fun ρ w b u h1 h2 h3 => pload_num ρ _ _ w b u h1 h2 h3)
    · exact owe_part rfl (wants_all rfl) rfl (k := 0) rfl (by kernel_rfl) rfl (fun ρ w b h => part_rat1 ρ _ _ w b 0 h)
    · exact owe_pload rfl (wants_all rfl) rfl (opnd_op 2 8 (by kernel_rfl) rfl) (k := 0) rfl (by kernel_rfl) rfl (fun ρ w b u h1 h2 h3 => pload_den ρ _ _ w b u h1 h2 h3)
    · exact owe_call2 rfl (wants_all rfl) rfl (opnd_op 1 7 (by kernel_rfl) rfl) (opnd_op 3 9 (by kernel_rfl) rfl) (fresh_two (fresh_zn _) (fresh_zn _)) rfl (fun args w => by go_simp) (fun w u v h1 h2 => g_rfloor hB (by omega) w u v ((fun _ _ h => h) _ _ h1) ((fun _ _ h => h) _ _ h2))
    · exact owe_move rfl (wants_all rfl) (Or.inl rfl) (opnd_op 4 10 (by kernel_rfl) rfl) rfl
    · exact owe_ext2 rfl (wants_all rfl) rfl (opnd_op 5 5 (by kernel_rfl) rfl) (Or.inl ⟨rfl, rfl⟩) rfl
    · exact owe_ext2 rfl (wants_all rfl) rfl (opnd_op 5 5 (by kernel_rfl) rfl) (Or.inr ⟨rfl, rfl⟩) rfl
    · exact owe_new rfl (wants_all rfl) rfl rfl (fun ρ w => alloc_int ρ _ w)
    · exact owe_new rfl (wants_all rfl) rfl rfl (fun ρ w => alloc_int ρ _ w)
    · exact owe_put 8 rfl (wants_all rfl) rfl (by kernel_rfl) rfl (opnd_op 6 11 (by kernel_rfl) rfl) (stores_of strct_int shp_z0 shp_zn) rfl
    · exact owe_put 9 rfl (wants_all rfl) rfl (by kernel_rfl) rfl (opnd_op 7 12 (by kernel_rfl) rfl) (stores_of strct_int shp_z0 shp_zn) rfl
  intro B2 a2 W2 S2
  replace S2 : Sta w 14 [(1, (.box 26 (PR (Zv A k1) (Zv ((D : Int)) k2)))), (2, (.box 24 (Is (.agg #[.bool false, .slice none 0 0])))), (3, (.box 24 ((ZN (fl A ((D : Int)))) w.heap.size))), (4, (.box 24 ((ZN (rm A ((D : Int)))) w.heap.size)))] [] B2 a2 W2 := S2
  refine wp_stmt_seq [.val ((ZN (fl A ((D : Int)))) w.heap.size),
      .put (.inl 2) (.box 24 ((ZN (fl A ((D : Int)))) w.heap.size))] [.inr 0, .inr 1, .inr 2, .inr 3] [] follows S2 rfl (by kernel_rfl) ?_ ?_
  · refine ⟨⟨trivial, ?_⟩, ?_⟩
    · exact owe_load rfl (wants_all rfl) rfl (k := 2) rfl (by kernel_rfl) (loads_of strct_int shp_zn) rfl
    · exact owe_set rfl (wants_all rfl) rfl (k := 1) rfl (by kernel_rfl) (opnd_op 0 13 (by kernel_rfl) rfl) (stores_of strct_int shp_z0 shp_zn) rfl
  intro B3 a3 W3 S3
  replace S3 : Sta w 14 [(1, (.box 26 (PR (Zv A k1) (Zv ((D : Int)) k2)))), (2, (.box 24 ((ZN (fl A ((D : Int)))) w.heap.size))), (3, (.box 24 ((ZN (fl A ((D : Int)))) w.heap.size))), (4, (.box 24 ((ZN (rm A ((D : Int)))) w.heap.size)))] [] B3 a3 W3 := S3
  refine wp_ret ?_
  exact end_one S3 rfl (res_cell S3 1 2 rfl strct_int shp_zn)

theorem g_rrfloor {A : Int} {D k1 k2 : Nat} (hD : D ≠ 0) (hk1 : k1 ≤ 8388608) (hk2 : k2 ≤ 8388608) : ∀ w u, Rv A (D : Int) k1 k2 u w → Calls Tryz.prog 17 #[u] w (Gives (ZN (fl A (D : Int))) w) := fun w u h => rrfloor_w w A D k1 k2 u h hk1 hk2 (by omega)

set_option maxHeartbeats 400000 in
theorem rhalf_w (w : World) :
    Calls Tryz.prog 36 #[] w (Gives (PRF (ZN (1)) (ZN (2))) w) := by
  refine calls_sta (sl := []) Tryz.func36 rfl Tryz.ntmps36 (by simp) args_nil ?_
  intro a0 S0
  refine wp_stmt_seq [.new (.box 26 (Is (.agg #[.bool false, .slice none 0 0, .bool false, .slice none 0 0])))] [.inl 0] [] follows S0 rfl (by kernel_rfl) ?_ ?_
  · refine ⟨trivial, ?_⟩
    · exact owe_new rfl (wants_all rfl) rfl rfl (fun ρ w => alloc_rat ρ _ w)
  intro B1 a1 W1 S1
  replace S1 : Sta w 4 [(0, (.box 26 (Is (.agg #[.bool false, .slice none 0 0, .bool false, .slice none 0 0]))))] [] B1 a1 W1 := S1
  refine wp_stmt_seq [.val ((ZN (1)) w.heap.size),
      .val ((ZN (2)) w.heap.size),
      .val (PR ((ZN (1)) w.heap.size) ((ZN (2)) w.heap.size)),
      .put (.inl 0) (.box 26 (PR ((ZN (1)) w.heap.size) ((ZN (2)) w.heap.size)))] [.inr 0] [] follows S1 rfl (by kernel_rfl) ?_ ?_
  · refine ⟨⟨⟨⟨trivial, ?_⟩, ?_⟩, ?_⟩, ?_⟩
    · exact owe_call0 rfl (wants_all rfl) rfl  (fresh_zn _) rfl (fun args w => by go_simp) g_rone
    · exact owe_call1 rfl (wants_all rfl) rfl (opnd_const _) (fresh_zn _) rfl (fun args w => by go_simp) (g_rof 2 (by decide) (by decide))
    · exact owe_build2 rfl (wants_all rfl) rfl (opnd_op 0 1 (by kernel_rfl) rfl) (opnd_op 1 2 (by kernel_rfl) rfl) shp_zn shp_zn rfl
    · exact owe_set rfl (wants_all rfl) rfl (k := 0) rfl (by kernel_rfl) (opnd_op 2 3 (by kernel_rfl) rfl) (stores_of strct_rat shp_r0 (shp_pr shp_zn shp_zn)) rfl
  intro B2 a2 W2 S2
  replace S2 : Sta w 4 [(0, (.box 26 (PR ((ZN (1)) w.heap.size) ((ZN (2)) w.heap.size))))] [] B2 a2 W2 := S2
  refine wp_ret ?_
  exact end_one S2 rfl (res_cell S2 0 0 rfl strct_rat (shp_pr shp_zn shp_zn))

theorem g_rhalf : ∀ w, Calls Tryz.prog 36 #[] w (Gives (RN 1 2) w) := fun w => rhalf_w w

set_option maxHeartbeats 400000 in
theorem rrnear_w (w : World) (A : Int) (D k1 k2 : Nat) (u : Value) (h : Rv A (D : Int) k1 k2 u w) (hk1 : k1 ≤ 1048577) (hk2 : k2 ≤ 1048577) (hD : D ≠ 0) (nx : Int) (dx : Nat) (ex : nR (A * ((2 : Nat) : Int) + 1 * ((D : Nat) : Int)) (D * 2) = nx) (ey : dR (A * ((2 : Nat) : Int) + 1 * ((D : Nat) : Int)) (D * 2) = dx) (lx : (digs nx.natAbs).length ≤ 8388608) (ly : (digs dx).length ≤ 8388608) (zx : dx ≠ 0) (ef : fl nx ((dx : Nat) : Int) = nr A (D : Int)) :
    Calls Tryz.prog 18 #[u] w (Gives (ZN (nr A (D : Int))) w) := by
  have l1i : (digs (1 : Int).natAbs).length ≤ 1 := dl_small (by decide)
  have l2 : (digs 2).length ≤ 1 := digs_length_le (by decide)
  have l1 : (digs 1).length ≤ 1 := digs_length_le (by decide)
  refine calls_sta (sl := [(0, (PR (Zv A k1) (Zv ((D : Int)) k2)))]) Tryz.func18 rfl Tryz.ntmps18 (by simp) (args_cons rfl (rv_has h) args_nil) ?_
  intro a0 S0
  refine wp_stmt_seq [.new (.box 26 (PR (Zv A k1) (Zv ((D : Int)) k2))),
      .new (.box 24 (Is (.agg #[.bool false, .slice none 0 0])))] [.inl 0, .inl 1] [] follows S0 rfl (by kernel_rfl) ?_ ?_
  · refine ⟨⟨trivial, ?_⟩, ?_⟩
    · exact owe_box rfl (wants_all rfl) rfl (opnd_slot 0 0 rfl (by kernel_rfl)) rfl (fun ρ w h => box_rat (shp_pr shp_zv shp_zv) ρ _ _ w h)
    · exact owe_new rfl (wants_all rfl) rfl rfl (fun ρ w => alloc_int ρ _ w)
  intro B1 a1 W1 S1
  replace S1 : Sta w 7 [(1, (.box 26 (PR (Zv A k1) (Zv ((D : Int)) k2)))), (2, (.box 24 (Is (.agg #[.bool false, .slice none 0 0]))))] [] B1 a1 W1 := S1
  refine wp_stmt_seq [.val (PR (Zv A k1) (Zv ((D : Int)) k2)),
      .val ((RN 1 2) w.heap.size),
      .val ((RN nx dx) w.heap.size),
      .val ((ZN (nr A (D : Int))) w.heap.size),
      .put (.inl 2) (.box 24 ((ZN (nr A (D : Int))) w.heap.size))] [.inr 0, .inr 1] [] follows S1 rfl (by kernel_rfl) ?_ ?_
  · refine ⟨⟨⟨⟨⟨trivial, ?_⟩, ?_⟩, ?_⟩, ?_⟩, ?_⟩
    · exact owe_load rfl (wants_all rfl) rfl (k := 0) rfl (by kernel_rfl) (loads_of strct_rat (shp_pr shp_zv shp_zv)) rfl
    · exact owe_call0 rfl (wants_all rfl) rfl  (fresh_rn _ _) rfl (fun args w => by go_simp) g_rhalf
    · exact owe_call2 rfl (wants_all rfl) rfl (opnd_op 0 3 (by kernel_rfl) rfl) (opnd_op 1 4 (by kernel_rfl) rfl) (fresh_rn _ _) rfl (fun args w => by go_simp) (fun w u0 u1 h0 h1 => Gives.cast ((fun w u v h1 h2 => g_rradd (by first | assumption | decide) (by first | assumption | decide) (by omega) (by omega) (by omega) (by omega) w u v ((pr_imp (fun _ _ h => h) (fun _ _ h => h)) _ _ h1) ((rn_rv l1i l2) _ _ h2)) w u0 u1 h0 h1) (by rw [ex, ey]))
    · exact owe_call1 rfl (wants_all rfl) rfl (opnd_op 2 5 (by kernel_rfl) rfl) (fresh_zn _) rfl (fun args w => by go_simp) (fun w u0 h0 => Gives.cast ((fun w u h1 => g_rrfloor (by assumption) (by omega) (by omega) w u ((rn_rv lx ly) _ _ h1)) w u0 h0) (by rw [ef]))
    · exact owe_set rfl (wants_all rfl) rfl (k := 1) rfl (by kernel_rfl) (opnd_op 3 6 (by kernel_rfl) rfl) (stores_of strct_int shp_z0 shp_zn) rfl
  intro B2 a2 W2 S2
  replace S2 : Sta w 7 [(1, (.box 26 (PR (Zv A k1) (Zv ((D : Int)) k2)))), (2, (.box 24 ((ZN (nr A (D : Int))) w.heap.size)))] [] B2 a2 W2 := S2
  refine wp_ret ?_
  exact end_one S2 rfl (res_cell S2 1 2 rfl strct_int shp_zn)

theorem near_sum {A : Int} {D : Nat} (hD : D ≠ 0) : fl (A * ((2 : Nat) : Int) + 1 * ((D : Nat) : Int)) ((D * 2 : Nat) : Int) = nr A (D : Int) := by
  unfold nr
  rw [show A * ((2 : Nat) : Int) + 1 * ((D : Nat) : Int) = 2 * A + (D : Int) from by grind, show ((D * 2 : Nat) : Int) = 2 * (D : Int) from by rw [Int.natCast_mul]; grind]
theorem g_rrnear {A : Int} {D k1 k2 : Nat} (hD : D ≠ 0) (hk1 : k1 ≤ 1048577) (hk2 : k2 ≤ 1048577) : ∀ w u, Rv A (D : Int) k1 k2 u w → Calls Tryz.prog 18 #[u] w (Gives (ZN (nr A (D : Int))) w) := fun w u h => by
  have D2 : D * 2 ≠ 0 := by omega
  obtain ⟨lA, lD⟩ : (digs A.natAbs).length ≤ 1048577 ∧ (digs D).length ≤ 1048577 := by
    obtain ⟨_, _, _, _, _, a, b⟩ := h
    have := zvn_len a; have := zvn_len b; rw [Int.natAbs_natCast] at this; omega
  refine rrnear_w w A D k1 k2 u h hk1 hk2 hD _ _ rfl rfl (nR_len ?_) (dR_len ?_) (dR_ne D2) ((fl_low D2).trans (near_sum hD))
  · exact Nat.le_trans (adN_len (N := 1) (M := 2) lA lD (l := 1) (dl_small (by decide)) (digs_length_le (by decide))) (by decide)
  · exact Nat.le_trans (len_mul lD (l := 1) (digs_length_le (by decide))) (by decide)

set_option maxHeartbeats 400000 in
theorem rrabs_n (w : World) (A : Int) (D k1 k2 : Nat) (u : Value) (h : Rv A (D : Int) k1 k2 u w) (hk1 : k1 ≤ 8388608) (hk2 : k2 ≤ 8388608) (hD : D ≠ 0) (hs : A.sign < 0) :
    Calls Tryz.prog 37 #[u] w (Gives (RN (nR (-A) D) (dR (-A) D)) w) := by
  refine calls_sta (sl := [(0, (PR (Zv A k1) (Zv ((D : Int)) k2)))]) Tryz.func37 rfl Tryz.ntmps37 (by simp) (args_cons rfl (rv_has h) args_nil) ?_
  intro a0 S0
  refine wp_stmt_seq [.new (.box 26 (PR (Zv A k1) (Zv ((D : Int)) k2))),
      .new (.box 26 (Is (.agg #[.bool false, .slice none 0 0, .bool false, .slice none 0 0])))] [.inl 0, .inl 1] [] follows S0 rfl (by kernel_rfl) ?_ ?_
  · refine ⟨⟨trivial, ?_⟩, ?_⟩
    · exact owe_box rfl (wants_all rfl) rfl (opnd_slot 0 0 rfl (by kernel_rfl)) rfl (fun ρ w h => box_rat (shp_pr shp_zv shp_zv) ρ _ _ w h)
    · exact owe_new rfl (wants_all rfl) rfl rfl (fun ρ w => alloc_rat ρ _ w)
  intro B1 a1 W1 S1
  replace S1 : Sta w 14 [(1, (.box 26 (PR (Zv A k1) (Zv ((D : Int)) k2)))), (2, (.box 26 (Is (.agg #[.bool false, .slice none 0 0, .bool false, .slice none 0 0]))))] [] B1 a1 W1 := S1
  refine wp_seq ?_
  refine wp_stmt_seq [.val (Part a1 1 0),
      .val (Zv A k1),
      .val (Is (.int .i64 (A).sign)),
      .val (Is (.bool true))] [.inr 0, .inr 1] [.inl 3] follows S1 rfl (by kernel_rfl) ?_ ?_
  · refine ⟨⟨⟨⟨trivial, ?_⟩, ?_⟩, ?_⟩, ?_⟩
    · exact owe_part rfl (wants_all rfl) rfl (k := 0) rfl (by kernel_rfl) rfl (fun ρ w b h => part_rat0 ρ _ _ w b 0 h)
    · exact owe_pload rfl (wants_all rfl) rfl (opnd_op 0 3 (by kernel_rfl) rfl) (k := 0) rfl (by kernel_rfl) rfl (fun ρ w b u h1 h2 h3 => pload_num ρ _ _ w b u h1 h2 h3)
    · exact owe_call1 rfl (wants_all rfl) rfl (opnd_op 1 4 (by kernel_rfl) rfl) (fresh_is _) rfl (fun args w => by go_simp) (fun w u h1 => g_rsign (by omega) w u ((fun _ _ h => h) _ _ h1))
    · exact owe_bin rfl (wants_all rfl) rfl (opnd_op 2 5 (by kernel_rfl) rfl) (opnd_const _) rfl (fun ρ w h1 h2 => by exact run_lss_int_t ρ _ _ _ w _ _ hs h1 h2)
  intro B2 a2 W2 S2
  replace S2 : Sta w 14 [(1, (.box 26 (PR (Zv A k1) (Zv ((D : Int)) k2)))), (2, (.box 26 (Is (.agg #[.bool false, .slice none 0 0, .bool false, .slice none 0 0]))))] [(6, (Is (.bool true)))] B2 a2 W2 := S2
  refine wp_cond_true (S2.bool 0 6 rfl) ?_
  refine wp_stmt_seq [.val (PR (Zv A k1) (Zv ((D : Int)) k2)),
      .val ((RN (nR (-A) D) (dR (-A) D)) w.heap.size),
      .put (.inl 2) (.box 26 ((RN (nR (-A) D) (dR (-A) D)) w.heap.size))] [.inr 0, .inr 1] [.inr 0] follows S2 rfl (by kernel_rfl) ?_ ?_
  · refine ⟨⟨⟨trivial, ?_⟩, ?_⟩, ?_⟩
    · exact owe_load rfl (wants_all rfl) rfl (k := 0) rfl (by kernel_rfl) (loads_of strct_rat (shp_pr shp_zv shp_zv)) rfl
    · exact owe_call1 rfl (wants_all rfl) rfl (opnd_op 0 7 (by kernel_rfl) rfl) (fresh_rn _ _) rfl (fun args w => by go_simp) (fun w u h1 => g_rrneg (by assumption) (by omega) (by omega) w u ((pr_imp (fun _ _ h => h) (fun _ _ h => h)) _ _ h1))
    · exact owe_set rfl (wants_all rfl) rfl (k := 1) rfl (by kernel_rfl) (opnd_op 1 8 (by kernel_rfl) rfl) (stores_of strct_rat shp_r0 (shp_pr shp_zn shp_zn)) rfl
  intro B3 a3 W3 S3
  replace S3 : Sta w 14 [(1, (.box 26 (PR (Zv A k1) (Zv ((D : Int)) k2)))), (2, (.box 26 ((RN (nR (-A) D) (dR (-A) D)) w.heap.size)))] [(6, (Is (.bool true)))] B3 a3 W3 := S3
  refine wp_ret ?_
  refine thenR ?_
  exact end_one S3 rfl (res_cell S3 1 2 rfl strct_rat (shp_pr shp_zn shp_zn))

set_option maxHeartbeats 400000 in
theorem rrabs_p (w : World) (A : Int) (D k1 k2 : Nat) (u : Value) (h : Rv A (D : Int) k1 k2 u w) (hk1 : k1 ≤ 8388608) (hk2 : k2 ≤ 8388608) (hD : D ≠ 0) (hs : 0 ≤ A.sign) :
    Calls Tryz.prog 37 #[u] w (Gives (RN (nR A D) (dR A D)) w) := by
  refine calls_sta (sl := [(0, (PR (Zv A k1) (Zv ((D : Int)) k2)))]) Tryz.func37 rfl Tryz.ntmps37 (by simp) (args_cons rfl (rv_has h) args_nil) ?_
  intro a0 S0
  refine wp_stmt_seq [.new (.box 26 (PR (Zv A k1) (Zv ((D : Int)) k2))),
      .new (.box 26 (Is (.agg #[.bool false, .slice none 0 0, .bool false, .slice none 0 0])))] [.inl 0, .inl 1] [] follows S0 rfl (by kernel_rfl) ?_ ?_
  · refine ⟨⟨trivial, ?_⟩, ?_⟩
    · exact owe_box rfl (wants_all rfl) rfl (opnd_slot 0 0 rfl (by kernel_rfl)) rfl (fun ρ w h => box_rat (shp_pr shp_zv shp_zv) ρ _ _ w h)
    · exact owe_new rfl (wants_all rfl) rfl rfl (fun ρ w => alloc_rat ρ _ w)
  intro B1 a1 W1 S1
  replace S1 : Sta w 14 [(1, (.box 26 (PR (Zv A k1) (Zv ((D : Int)) k2)))), (2, (.box 26 (Is (.agg #[.bool false, .slice none 0 0, .bool false, .slice none 0 0]))))] [] B1 a1 W1 := S1
  refine wp_seq ?_
  refine wp_stmt_seq [.val (Part a1 1 0),
      .val (Zv A k1),
      .val (Is (.int .i64 (A).sign)),
      .val (Is (.bool false))] [.inr 0, .inr 1] [.inl 3] follows S1 rfl (by kernel_rfl) ?_ ?_
  · refine ⟨⟨⟨⟨trivial, ?_⟩, ?_⟩, ?_⟩, ?_⟩
    · exact owe_part rfl (wants_all rfl) rfl (k := 0) rfl (by kernel_rfl) rfl (fun ρ w b h => part_rat0 ρ _ _ w b 0 h)
    · exact owe_pload rfl (wants_all rfl) rfl (opnd_op 0 3 (by kernel_rfl) rfl) (k := 0) rfl (by kernel_rfl) rfl (fun ρ w b u h1 h2 h3 => pload_num ρ _ _ w b u h1 h2 h3)
    · exact owe_call1 rfl (wants_all rfl) rfl (opnd_op 1 4 (by kernel_rfl) rfl) (fresh_is _) rfl (fun args w => by go_simp) (fun w u h1 => g_rsign (by omega) w u ((fun _ _ h => h) _ _ h1))
    · exact owe_bin rfl (wants_all rfl) rfl (opnd_op 2 5 (by kernel_rfl) rfl) (opnd_const _) rfl (fun ρ w h1 h2 => by exact run_lss_int_f ρ _ _ _ w _ _ hs h1 h2)
  intro B2 a2 W2 S2
  replace S2 : Sta w 14 [(1, (.box 26 (PR (Zv A k1) (Zv ((D : Int)) k2)))), (2, (.box 26 (Is (.agg #[.bool false, .slice none 0 0, .bool false, .slice none 0 0]))))] [(6, (Is (.bool false)))] B2 a2 W2 := S2
  refine wp_cond_false (S2.bool 0 6 rfl) ?_
  refine wp_skip ?_
  refine thenN ?_
  refine wp_stmt_seq [.val (Part a2 1 0),
      .val (Zv A k1),
      .val (Part a2 1 2),
      .val (Zv ((D : Int)) k2),
      .val ((RN (nR A D) (dR A D)) w.heap.size),
      .put (.inl 2) (.box 26 ((RN (nR A D) (dR A D)) w.heap.size))] [.inr 0, .inr 1] [.inr 0] follows S2 rfl (by kernel_rfl) ?_ ?_
  · refine ⟨⟨⟨⟨⟨⟨trivial, ?_⟩, ?_⟩, ?_⟩, ?_⟩, ?_⟩, ?_⟩
    · exact owe_part rfl (wants_all rfl) rfl (k := 0) rfl (by kernel_rfl) rfl (fun ρ w b h => part_rat0 ρ _ _ w b 0 h)
    · exact owe_pload rfl (wants_all rfl) rfl (opnd_op 0 9 (by kernel_rfl) rfl) (k := 0) rfl (by kernel_rfl) rfl (fun ρ w b u h1 h2 h3 => pload_num ρ _ _ w b u h1 h2 h3)
    · exact owe_part rfl (wants_all rfl) rfl (k := 0) rfl (by kernel_rfl) rfl (fun ρ w b h => part_rat1 ρ _ _ w b 0 h)
    · exact owe_pload rfl (wants_all rfl) rfl (opnd_op 2 11 (by kernel_rfl) rfl) (k := 0) rfl (by kernel_rfl) rfl (fun ρ w b u h1 h2 h3 => pload_den ρ _ _ w b u h1 h2 h3)
    · exact owe_call2 rfl (wants_all rfl) rfl (opnd_op 1 10 (by kernel_rfl) rfl) (opnd_op 3 12 (by kernel_rfl) rfl) (fresh_rn _ _) rfl (fun args w => by go_simp) (fun w u v h1 h2 => g_rmake (by assumption) (by omega) (by omega) w u v ((fun _ _ h => h) _ _ h1) ((fun _ _ h => h) _ _ h2))
    · exact owe_set rfl (wants_all rfl) rfl (k := 1) rfl (by kernel_rfl) (opnd_op 4 13 (by kernel_rfl) rfl) (stores_of strct_rat shp_r0 (shp_pr shp_zn shp_zn)) rfl
  intro B3 a3 W3 S3
  replace S3 : Sta w 14 [(1, (.box 26 (PR (Zv A k1) (Zv ((D : Int)) k2)))), (2, (.box 26 ((RN (nR A D) (dR A D)) w.heap.size)))] [(6, (Is (.bool false)))] B3 a3 W3 := S3
  refine wp_ret ?_
  exact end_one S3 rfl (res_cell S3 1 2 rfl strct_rat (shp_pr shp_zn shp_zn))

theorem g_rrabs {P : Int} {Y k1 k2 : Nat} {A : Int} {D : Nat} (hY : Y ≠ 0) (e1 : nR P Y = A) (e2 : dR P Y = D) (hk1 : k1 ≤ 8388608) (hk2 : k2 ≤ 8388608) : ∀ w u, Rv A (D : Int) k1 k2 u w → Calls Tryz.prog 37 #[u] w (Gives (RN ((A.natAbs : Nat) : Int) D) w) := fun w u h => by
  have hD : D ≠ 0 := e2 ▸ dR_ne hY
  have t := low_twice (P := P) hY
  rw [e1, e2] at t
  by_cases hs : A < 0
  · refine Gives.cast (rrabs_n w A D k1 k2 u h hk1 hk2 hD (sign_lt hs)) ?_
    rw [nR_neg, dR_neg, t.1, t.2, show ((A.natAbs : Nat) : Int) = -A from by omega]
  · refine Gives.cast (rrabs_p w A D k1 k2 u h hk1 hk2 hD (sign_ge (by omega))) ?_
    rw [t.1, t.2, show ((A.natAbs : Nat) : Int) = A from by omega]

set_option maxHeartbeats 400000 in
theorem ratdist_w (w : World) (A : Int) (D k1 k2 : Nat) (u : Value) (h : Rv A (D : Int) k1 k2 u w) (hk1 : k1 ≤ 1048576) (hk2 : k2 ≤ 1048576) (hD : D ≠ 0) (n : Int) (en : nr A (D : Int) = n) (ln : (digs n.natAbs).length ≤ 1048577) (nd : Int) (dd : Nat) (e1 : nR (adN A (-n) D 1) (D * 1) = nd) (e2 : dR (adN A (-n) D 1) (D * 1) = dd) (l1d : (digs nd.natAbs).length ≤ 8388608) (l2d : (digs dd).length ≤ 8388608) (zd : dd ≠ 0) :
    Calls Tryz.prog 14 #[u] w (Gives (TWO (PRF (ZN (((nd).natAbs : Int))) (ZN (((dd : Nat) : Int)))) (IS (.int .i64 0))) w) := by
  have l1i : (digs (1 : Int).natAbs).length ≤ 1 := dl_small (by decide)
  have l2 : (digs 2).length ≤ 1 := digs_length_le (by decide)
  have l1 : (digs 1).length ≤ 1 := digs_length_le (by decide)
  refine calls_sta (sl := [(0, (PR (Zv A k1) (Zv ((D : Int)) k2)))]) Tryz.func14 rfl Tryz.ntmps14 (by simp) (args_cons rfl (rv_has h) args_nil) ?_
  intro a0 S0
  refine wp_stmt_seq [.new (.box 26 (PR (Zv A k1) (Zv ((D : Int)) k2))),
      .new (.box 26 (Is (.agg #[.bool false, .slice none 0 0, .bool false, .slice none 0 0]))),
      .val (Is (.int .i64 0))] [.inl 0, .inl 1] [.inl 2] follows S0 rfl (by kernel_rfl) ?_ ?_
  · refine ⟨⟨⟨trivial, ?_⟩, ?_⟩, ?_⟩
    · exact owe_box rfl (wants_all rfl) rfl (opnd_slot 0 0 rfl (by kernel_rfl)) rfl (fun ρ w h => box_rat (shp_pr shp_zv shp_zv) ρ _ _ w h)
    · exact owe_new rfl (wants_all rfl) rfl rfl (fun ρ w => alloc_rat ρ _ w)
    · exact owe_move rfl (wants_all rfl) (Or.inr rfl) (opnd_const _) rfl
  intro B1 a1 W1 S1
  replace S1 : Sta w 30 [(1, (.box 26 (PR (Zv A k1) (Zv ((D : Int)) k2)))), (2, (.box 26 (Is (.agg #[.bool false, .slice none 0 0, .bool false, .slice none 0 0]))))] [(3, (Is (.int .i64 0)))] B1 a1 W1 := S1
  refine wp_stmt_seq [.val (PR (Zv A k1) (Zv ((D : Int)) k2)),
      .val ((TWO (ZN (n)) (IS (.int .i64 0))) w.heap.size),
      .val ((TWO (ZN (n)) (IS (.int .i64 0))) w.heap.size),
      .val ((ZN (n)) w.heap.size),
      .val (Is (.int .i64 0)),
      .new (.box 24 (Is (.agg #[.bool false, .slice none 0 0]))),
      .put (.inr 5) (.box 24 ((ZN (n)) w.heap.size)),
      .val (Is (.int .i64 0))] [.inr 0, .inr 1, .inl 5] [.inl 7, .inr 0] follows S1 rfl (by kernel_rfl) ?_ ?_
  · refine ⟨⟨⟨⟨⟨⟨⟨⟨trivial, ?_⟩, ?_⟩, ?_⟩, ?_⟩, ?_⟩, ?_⟩, ?_⟩, ?_⟩
    · exact owe_load rfl (wants_all rfl) rfl (k := 0) rfl (by kernel_rfl) (loads_of strct_rat (shp_pr shp_zv shp_zv)) rfl
    · exact owe_call1 rfl (wants_all rfl) rfl (opnd_op 0 8 (by kernel_rfl) rfl) (fresh_two (fresh_zn _) (fresh_is _)) rfl (fun args w => by go_simp) (fun w u0 h0 => Gives.cast ((fun w u h1 => g_ratnear hD (by omega) (by omega) w u ((pr_imp (fun _ _ h => h) (fun _ _ h => h)) _ _ h1)) w u0 h0) (by rw [en]))
    · exact owe_move rfl (wants_all rfl) (Or.inl rfl) (opnd_op 1 9 (by kernel_rfl) rfl) rfl
    · exact owe_ext2 rfl (wants_all rfl) rfl (opnd_op 2 7 (by kernel_rfl) rfl) (Or.inl ⟨rfl, rfl⟩) rfl
    · exact owe_ext2 rfl (wants_all rfl) rfl (opnd_op 2 7 (by kernel_rfl) rfl) (Or.inr ⟨rfl, rfl⟩) rfl
    · exact owe_new rfl (wants_all rfl) rfl rfl (fun ρ w => alloc_int ρ _ w)
    · exact owe_put 5 rfl (wants_all rfl) rfl (by kernel_rfl) rfl (opnd_op 3 10 (by kernel_rfl) rfl) (stores_of strct_int shp_z0 shp_zn) rfl
    · exact owe_move rfl (wants_all rfl) (Or.inr rfl) (opnd_op 4 11 (by kernel_rfl) rfl) rfl
  intro B2 a2 W2 S2
  replace S2 : Sta w 30 [(1, (.box 26 (PR (Zv A k1) (Zv ((D : Int)) k2)))), (2, (.box 26 (Is (.agg #[.bool false, .slice none 0 0, .bool false, .slice none 0 0])))), (4, (.box 24 ((ZN (n)) w.heap.size)))] [(5, (Is (.int .i64 0))), (3, (Is (.int .i64 0)))] B2 a2 W2 := S2
  refine wp_seq ?_
  refine wp_stmt_seq [.val (Is (.int .i64 0)),
      .val (Is (.bool false))] [.inr 0, .inr 1, .inr 2] [.inl 1, .inr 0, .inr 1] follows S2 rfl (by kernel_rfl) ?_ ?_
  · refine ⟨⟨trivial, ?_⟩, ?_⟩
    · exact owe_move rfl (wants_all rfl) (Or.inl rfl) (opnd_slot 0 5 rfl (by kernel_rfl)) rfl
    · exact owe_bin rfl (wants_all rfl) rfl (opnd_op 0 12 (by kernel_rfl) rfl) (opnd_const _) rfl (fun ρ w h1 h2 => by exact run_neq_errno_f ρ _ _ _ w _ _ rfl h1 h2)
  intro B3 a3 W3 S3
  replace S3 : Sta w 30 [(1, (.box 26 (PR (Zv A k1) (Zv ((D : Int)) k2)))), (2, (.box 26 (Is (.agg #[.bool false, .slice none 0 0, .bool false, .slice none 0 0])))), (4, (.box 24 ((ZN (n)) w.heap.size)))] [(13, (Is (.bool false))), (5, (Is (.int .i64 0))), (3, (Is (.int .i64 0)))] B3 a3 W3 := S3
  refine wp_cond_false (S3.bool 0 13 rfl) ?_
  refine wp_skip ?_
  refine thenN ?_
  refine wp_stmt_seq [.val (PR (Zv A k1) (Zv ((D : Int)) k2)),
      .val ((ZN (n)) w.heap.size),
      .val ((RN n 1) w.heap.size),
      .val ((TWO (RN nd dd) (IS (.int .i64 0))) w.heap.size),
      .val ((TWO (RN nd dd) (IS (.int .i64 0))) w.heap.size),
      .val ((RN nd dd) w.heap.size),
      .val (Is (.int .i64 0)),
      .new (.box 26 (Is (.agg #[.bool false, .slice none 0 0, .bool false, .slice none 0 0]))),
      .put (.inr 7) (.box 26 ((RN nd dd) w.heap.size)),
      .val (Is (.int .i64 0))] [.inr 0, .inr 1, .inr 2, .inl 7] [.inl 9, .inr 0, .inr 2] follows S3 rfl (by kernel_rfl) ?_ ?_
  · refine ⟨⟨⟨⟨⟨⟨⟨⟨⟨⟨trivial, ?_⟩, ?_⟩, ?_⟩, ?_⟩, ?_⟩, ?_⟩, ?_⟩, ?_⟩, ?_⟩, ?_⟩
    · exact owe_load rfl (wants_all rfl) rfl (k := 0) rfl (by kernel_rfl) (loads_of strct_rat (shp_pr shp_zv shp_zv)) rfl
    · exact owe_load rfl (wants_all rfl) rfl (k := 2) rfl (by kernel_rfl) (loads_of strct_int shp_zn) rfl
    · exact owe_call1 rfl (wants_all rfl) rfl (opnd_op 1 18 (by kernel_rfl) rfl) (fresh_rn _ _) rfl (fun args w => by go_simp) (fun w u h1 => g_ratof (by omega) w u ((zn_zv ln) _ _ h1))
    · exact owe_call2 rfl (wants_all rfl) rfl (opnd_op 0 17 (by kernel_rfl) rfl) (opnd_op 2 19 (by kernel_rfl) rfl) (fresh_two (fresh_rn _ _) (fresh_is _)) rfl (fun args w => by go_simp) (fun w u0 u1 h0 h1 => Gives.cast ((fun w u v h1 h2 => g_ratsub (by first | assumption | decide) (by first | assumption | decide) (by omega) (by omega) (by omega) (by omega) w u v ((pr_imp (fun _ _ h => h) (fun _ _ h => h)) _ _ h1) ((rn_rv ln l1) _ _ h2)) w u0 u1 h0 h1) (by rw [e1, e2]))
    · exact owe_move rfl (wants_all rfl) (Or.inl rfl) (opnd_op 3 20 (by kernel_rfl) rfl) rfl
    · exact owe_ext2 rfl (wants_all rfl) rfl (opnd_op 4 16 (by kernel_rfl) rfl) (Or.inl ⟨rfl, rfl⟩) rfl
    · exact owe_ext2 rfl (wants_all rfl) rfl (opnd_op 4 16 (by kernel_rfl) rfl) (Or.inr ⟨rfl, rfl⟩) rfl
    · exact owe_new rfl (wants_all rfl) rfl rfl (fun ρ w => alloc_rat ρ _ w)
    · exact owe_put 7 rfl (wants_all rfl) rfl (by kernel_rfl) rfl (opnd_op 5 21 (by kernel_rfl) rfl) (stores_of strct_rat shp_r0 (shp_pr shp_zn shp_zn)) rfl
    · exact owe_move rfl (wants_all rfl) (Or.inr rfl) (opnd_op 6 22 (by kernel_rfl) rfl) rfl
  intro B4 a4 W4 S4
  replace S4 : Sta w 30 [(1, (.box 26 (PR (Zv A k1) (Zv ((D : Int)) k2)))), (2, (.box 26 (Is (.agg #[.bool false, .slice none 0 0, .bool false, .slice none 0 0])))), (4, (.box 24 ((ZN (n)) w.heap.size))), (6, (.box 26 ((RN nd dd) w.heap.size)))] [(5, (Is (.int .i64 0))), (13, (Is (.bool false))), (3, (Is (.int .i64 0)))] B4 a4 W4 := S4
  refine wp_stmt_seq [.val (Part a4 6 0),
      .val ((ZN (nd)) w.heap.size),
      .val ((ZN (((nd).natAbs : Int))) w.heap.size),
      .val (Part a4 6 2),
      .val ((ZN (((dd : Nat) : Int))) w.heap.size),
      .val (PR ((ZN (((nd).natAbs : Int))) w.heap.size) ((ZN (((dd : Nat) : Int))) w.heap.size)),
      .val (Is (.int .i64 0)),
      .put (.inl 2) (.box 26 (PR ((ZN (((nd).natAbs : Int))) w.heap.size) ((ZN (((dd : Nat) : Int))) w.heap.size))),
      .val (Is (.int .i64 0))] [.inr 0, .inr 1, .inr 2, .inr 3] [.inl 8, .inr 0, .inr 1] follows S4 rfl (by kernel_rfl) ?_ ?_
  · refine ⟨⟨⟨⟨⟨⟨⟨⟨⟨trivial, ?_⟩, ?_⟩, ?_⟩, ?_⟩, ?_⟩, ?_⟩, ?_⟩, ?_⟩, ?_⟩
    · exact owe_part rfl (wants_all rfl) rfl (k := 3) rfl (by kernel_rfl) rfl (fun ρ w b h => part_rat0 ρ _ _ w b 0 h)
    · exact owe_pload rfl (wants_all rfl) rfl (opnd_op 0 23 (by kernel_rfl) rfl) (k := 3) rfl (by kernel_rfl) rfl (fun ρ w b u h1 h2 h3 => pload_num ρ _ _ w b u h1 h2 h3)
    · exact owe_call1 rfl (wants_all rfl) rfl (opnd_op 1 24 (by kernel_rfl) rfl) (fresh_zn _) rfl (fun args w => by go_simp) (fun w u h1 => g_zabs (by omega) w u ((zn_zv l1d) _ _ h1))
    · exact owe_part rfl (wants_all rfl) rfl (k := 3) rfl (by kernel_rfl) rfl (fun ρ w b h => part_rat1 ρ _ _ w b 0 h)
    · exact owe_pload rfl (wants_all rfl) rfl (opnd_op 3 26 (by kernel_rfl) rfl) (k := 3) rfl (by kernel_rfl) rfl (fun ρ w b u h1 h2 h3 => pload_den ρ _ _ w b u h1 h2 h3)
    · exact owe_build2 rfl (wants_all rfl) rfl (opnd_op 2 25 (by kernel_rfl) rfl) (opnd_op 4 27 (by kernel_rfl) rfl) shp_zn shp_zn rfl
    · exact owe_move rfl (wants_all rfl) (Or.inl rfl) (opnd_slot 0 5 rfl (by kernel_rfl)) rfl
    · exact owe_set rfl (wants_all rfl) rfl (k := 1) rfl (by kernel_rfl) (opnd_op 5 28 (by kernel_rfl) rfl) (stores_of strct_rat shp_r0 (shp_pr shp_zn shp_zn)) rfl
    · exact owe_move rfl (wants_all rfl) (Or.inr rfl) (opnd_op 6 29 (by kernel_rfl) rfl) rfl
  intro B5 a5 W5 S5
  replace S5 : Sta w 30 [(1, (.box 26 (PR (Zv A k1) (Zv ((D : Int)) k2)))), (2, (.box 26 (PR ((ZN (((nd).natAbs : Int))) w.heap.size) ((ZN (((dd : Nat) : Int))) w.heap.size)))), (4, (.box 24 ((ZN (n)) w.heap.size))), (6, (.box 26 ((RN nd dd) w.heap.size)))] [(3, (Is (.int .i64 0))), (5, (Is (.int .i64 0))), (13, (Is (.bool false)))] B5 a5 W5 := S5
  refine wp_ret ?_
  exact end_two S5 rfl (res_cell S5 1 2 rfl strct_rat (shp_pr shp_zn shp_zn)) (res_tmp S5 0 3 rfl)

set_option maxHeartbeats 400000 in
theorem ratdist_b (w : World) (A D : Int) (k1 k2 : Nat) (u : Value) (h : Rv A D k1 k2 u w) (hk1 : k1 ≤ 8388608) (hk2 : k2 ≤ 8388608) (hmf : decide (0 < D.sign) = false) :
    Calls Tryz.prog 14 #[u] w (Gives (TWO (IS (.agg #[.bool false, .slice none 0 0, .bool false, .slice none 0 0])) (IS (.int .i64 30))) w) := by
  refine calls_sta (sl := [(0, (PR (Zv A k1) (Zv D k2)))]) Tryz.func14 rfl Tryz.ntmps14 (by simp) (args_cons rfl (rv_has h) args_nil) ?_
  intro a0 S0
  refine wp_stmt_seq [.new (.box 26 (PR (Zv A k1) (Zv D k2))),
      .new (.box 26 (Is (.agg #[.bool false, .slice none 0 0, .bool false, .slice none 0 0]))),
      .val (Is (.int .i64 0))] [.inl 0, .inl 1] [.inl 2] follows S0 rfl (by kernel_rfl) ?_ ?_
  · refine ⟨⟨⟨trivial, ?_⟩, ?_⟩, ?_⟩
    · exact owe_box rfl (wants_all rfl) rfl (opnd_slot 0 0 rfl (by kernel_rfl)) rfl (fun ρ w h => box_rat (shp_pr shp_zv shp_zv) ρ _ _ w h)
    · exact owe_new rfl (wants_all rfl) rfl rfl (fun ρ w => alloc_rat ρ _ w)
    · exact owe_move rfl (wants_all rfl) (Or.inr rfl) (opnd_const _) rfl
  intro B1 a1 W1 S1
  replace S1 : Sta w 30 [(1, (.box 26 (PR (Zv A k1) (Zv D k2)))), (2, (.box 26 (Is (.agg #[.bool false, .slice none 0 0, .bool false, .slice none 0 0]))))] [(3, (Is (.int .i64 0)))] B1 a1 W1 := S1
  refine wp_stmt_seq [.val (PR (Zv A k1) (Zv D k2)),
      .val ((TWO (IS (.agg #[.bool false, .slice none 0 0])) (IS (.int .i64 30))) w.heap.size),
      .val ((TWO (IS (.agg #[.bool false, .slice none 0 0])) (IS (.int .i64 30))) w.heap.size),
      .val (Is (.agg #[.bool false, .slice none 0 0])),
      .val (Is (.int .i64 30)),
      .new (.box 24 (Is (.agg #[.bool false, .slice none 0 0]))),
      .put (.inr 5) (.box 24 (Is (.agg #[.bool false, .slice none 0 0]))),
      .val (Is (.int .i64 30))] [.inr 0, .inr 1, .inl 5] [.inl 7, .inr 0] follows S1 rfl (by kernel_rfl) ?_ ?_
  · refine ⟨⟨⟨⟨⟨⟨⟨⟨trivial, ?_⟩, ?_⟩, ?_⟩, ?_⟩, ?_⟩, ?_⟩, ?_⟩, ?_⟩
    · exact owe_load rfl (wants_all rfl) rfl (k := 0) rfl (by kernel_rfl) (loads_of strct_rat (shp_pr shp_zv shp_zv)) rfl
    · exact owe_call1 rfl (wants_all rfl) rfl (opnd_op 0 8 (by kernel_rfl) rfl) (fresh_two (fresh_is _) (fresh_is _)) rfl (fun args w => by go_simp) (fun w u h1 => ratnear_b w A D k1 k2 u ((pr_imp (fun _ _ h => h) (fun _ _ h => h)) _ _ h1) (by omega) (by omega) hmf)
    · exact owe_move rfl (wants_all rfl) (Or.inl rfl) (opnd_op 1 9 (by kernel_rfl) rfl) rfl
    · exact owe_ext2 rfl (wants_all rfl) rfl (opnd_op 2 7 (by kernel_rfl) rfl) (Or.inl ⟨rfl, rfl⟩) rfl
    · exact owe_ext2 rfl (wants_all rfl) rfl (opnd_op 2 7 (by kernel_rfl) rfl) (Or.inr ⟨rfl, rfl⟩) rfl
    · exact owe_new rfl (wants_all rfl) rfl rfl (fun ρ w => alloc_int ρ _ w)
    · exact owe_put 5 rfl (wants_all rfl) rfl (by kernel_rfl) rfl (opnd_op 3 10 (by kernel_rfl) rfl) (stores_of strct_int shp_z0 shp_z0) rfl
    · exact owe_move rfl (wants_all rfl) (Or.inr rfl) (opnd_op 4 11 (by kernel_rfl) rfl) rfl
  intro B2 a2 W2 S2
  replace S2 : Sta w 30 [(1, (.box 26 (PR (Zv A k1) (Zv D k2)))), (2, (.box 26 (Is (.agg #[.bool false, .slice none 0 0, .bool false, .slice none 0 0])))), (4, (.box 24 (Is (.agg #[.bool false, .slice none 0 0]))))] [(5, (Is (.int .i64 30))), (3, (Is (.int .i64 0)))] B2 a2 W2 := S2
  refine wp_seq ?_
  refine wp_stmt_seq [.val (Is (.int .i64 30)),
      .val (Is (.bool true))] [.inr 0, .inr 1, .inr 2] [.inl 1, .inr 0, .inr 1] follows S2 rfl (by kernel_rfl) ?_ ?_
  · refine ⟨⟨trivial, ?_⟩, ?_⟩
    · exact owe_move rfl (wants_all rfl) (Or.inl rfl) (opnd_slot 0 5 rfl (by kernel_rfl)) rfl
    · exact owe_bin rfl (wants_all rfl) rfl (opnd_op 0 12 (by kernel_rfl) rfl) (opnd_const _) rfl (fun ρ w h1 h2 => by exact run_neq_errno_t ρ _ _ _ w _ _ (by decide) h1 h2)
  intro B3 a3 W3 S3
  replace S3 : Sta w 30 [(1, (.box 26 (PR (Zv A k1) (Zv D k2)))), (2, (.box 26 (Is (.agg #[.bool false, .slice none 0 0, .bool false, .slice none 0 0])))), (4, (.box 24 (Is (.agg #[.bool false, .slice none 0 0]))))] [(13, (Is (.bool true))), (5, (Is (.int .i64 30))), (3, (Is (.int .i64 0)))] B3 a3 W3 := S3
  refine wp_cond_true (S3.bool 0 13 rfl) ?_
  refine wp_stmt_seq [.val (Is (.agg #[.bool false, .slice none 0 0, .bool false, .slice none 0 0])),
      .val (Is (.int .i64 30)),
      .put (.inl 2) (.box 26 (Is (.agg #[.bool false, .slice none 0 0, .bool false, .slice none 0 0]))),
      .val (Is (.int .i64 30))] [.inr 0, .inr 1, .inr 2] [.inl 3, .inr 0, .inr 1] follows S3 rfl (by kernel_rfl) ?_ ?_
  · refine ⟨⟨⟨⟨trivial, ?_⟩, ?_⟩, ?_⟩, ?_⟩
    · exact owe_build_rat rfl (wants_all rfl) rfl rfl
    · exact owe_move rfl (wants_all rfl) (Or.inl rfl) (opnd_slot 1 5 rfl (by kernel_rfl)) rfl
    · exact owe_set rfl (wants_all rfl) rfl (k := 1) rfl (by kernel_rfl) (opnd_op 0 14 (by kernel_rfl) rfl) (stores_of strct_rat shp_r0 shp_r0) rfl
    · exact owe_move rfl (wants_all rfl) (Or.inr rfl) (opnd_op 1 15 (by kernel_rfl) rfl) rfl
  intro B4 a4 W4 S4
  replace S4 : Sta w 30 [(1, (.box 26 (PR (Zv A k1) (Zv D k2)))), (2, (.box 26 (Is (.agg #[.bool false, .slice none 0 0, .bool false, .slice none 0 0])))), (4, (.box 24 (Is (.agg #[.bool false, .slice none 0 0]))))] [(3, (Is (.int .i64 30))), (13, (Is (.bool true))), (5, (Is (.int .i64 30)))] B4 a4 W4 := S4
  refine wp_ret ?_
  refine thenR ?_
  exact end_two S4 rfl (res_cell S4 1 2 rfl strct_rat shp_r0) (res_tmp S4 0 3 rfl)

set_option maxHeartbeats 400000 in
theorem rrdist_w (w : World) (A : Int) (D k1 k2 : Nat) (u : Value) (h : Rv A (D : Int) k1 k2 u w) (hk1 : k1 ≤ 1048576) (hk2 : k2 ≤ 1048576) (hD : D ≠ 0) (n : Int) (en : nr A (D : Int) = n) (ln : (digs n.natAbs).length ≤ 1048577) (nd : Int) (dd : Nat) (e1 : nR (adN A (-n) D 1) (D * 1) = nd) (e2 : dR (adN A (-n) D 1) (D * 1) = dd) (l1d : (digs nd.natAbs).length ≤ 8388608) (l2d : (digs dd).length ≤ 8388608) (zd : dd ≠ 0) (es : RN (nR (A * ((dR (-n) 1 : Nat) : Int) + nR (-n) 1 * ((D : Nat) : Int)) (D * dR (-n) 1)) (dR (A * ((dR (-n) 1 : Nat) : Int) + nR (-n) 1 * ((D : Nat) : Int)) (D * dR (-n) 1)) = RN nd dd) (hD1 : D * 1 ≠ 0) :
    Calls Tryz.prog 19 #[u] w (Gives (RN (((nd.natAbs : Nat) : Int)) dd) w) := by
  have l1i : (digs (1 : Int).natAbs).length ≤ 1 := dl_small (by decide)
  have l2 : (digs 2).length ≤ 1 := digs_length_le (by decide)
  have l1 : (digs 1).length ≤ 1 := digs_length_le (by decide)
  refine calls_sta (sl := [(0, (PR (Zv A k1) (Zv ((D : Int)) k2)))]) Tryz.func19 rfl Tryz.ntmps19 (by simp) (args_cons rfl (rv_has h) args_nil) ?_
  intro a0 S0
  refine wp_stmt_seq [.new (.box 26 (PR (Zv A k1) (Zv ((D : Int)) k2))),
      .new (.box 26 (Is (.agg #[.bool false, .slice none 0 0, .bool false, .slice none 0 0])))] [.inl 0, .inl 1] [] follows S0 rfl (by kernel_rfl) ?_ ?_
  · refine ⟨⟨trivial, ?_⟩, ?_⟩
    · exact owe_box rfl (wants_all rfl) rfl (opnd_slot 0 0 rfl (by kernel_rfl)) rfl (fun ρ w h => box_rat (shp_pr shp_zv shp_zv) ρ _ _ w h)
    · exact owe_new rfl (wants_all rfl) rfl rfl (fun ρ w => alloc_rat ρ _ w)
  intro B1 a1 W1 S1
  replace S1 : Sta w 9 [(1, (.box 26 (PR (Zv A k1) (Zv ((D : Int)) k2)))), (2, (.box 26 (Is (.agg #[.bool false, .slice none 0 0, .bool false, .slice none 0 0]))))] [] B1 a1 W1 := S1
  refine wp_stmt_seq [.val (PR (Zv A k1) (Zv ((D : Int)) k2)),
      .val (PR (Zv A k1) (Zv ((D : Int)) k2)),
      .val ((ZN (n)) w.heap.size),
      .val ((RN n 1) w.heap.size),
      .val ((RN nd dd) w.heap.size),
      .val ((RN (((nd.natAbs : Nat) : Int)) dd) w.heap.size),
      .put (.inl 2) (.box 26 ((RN (((nd.natAbs : Nat) : Int)) dd) w.heap.size))] [.inr 0, .inr 1] [] follows S1 rfl (by kernel_rfl) ?_ ?_
  · refine ⟨⟨⟨⟨⟨⟨⟨trivial, ?_⟩, ?_⟩, ?_⟩, ?_⟩, ?_⟩, ?_⟩, ?_⟩
    · exact owe_load rfl (wants_all rfl) rfl (k := 0) rfl (by kernel_rfl) (loads_of strct_rat (shp_pr shp_zv shp_zv)) rfl
    · exact owe_load rfl (wants_all rfl) rfl (k := 0) rfl (by kernel_rfl) (loads_of strct_rat (shp_pr shp_zv shp_zv)) rfl
    · exact owe_call1 rfl (wants_all rfl) rfl (opnd_op 1 4 (by kernel_rfl) rfl) (fresh_zn _) rfl (fun args w => by go_simp) (fun w u0 h0 => Gives.cast ((fun w u h1 => g_rrnear hD (by omega) (by omega) w u ((pr_imp (fun _ _ h => h) (fun _ _ h => h)) _ _ h1)) w u0 h0) (by rw [en]))
    · exact owe_call1 rfl (wants_all rfl) rfl (opnd_op 2 5 (by kernel_rfl) rfl) (fresh_rn _ _) rfl (fun args w => by go_simp) (fun w u h1 => g_rofr (by omega) w u ((zn_zv ln) _ _ h1))
    · exact owe_call2 rfl (wants_all rfl) rfl (opnd_op 0 3 (by kernel_rfl) rfl) (opnd_op 3 6 (by kernel_rfl) rfl) (fresh_rn _ _) rfl (fun args w => by go_simp) (fun w u0 u1 h0 h1 => Gives.cast ((fun w u v h1 h2 => g_rrsub (by first | assumption | decide) (by first | assumption | decide) (by omega) (by omega) (by omega) (by omega) w u v ((pr_imp (fun _ _ h => h) (fun _ _ h => h)) _ _ h1) ((rn_rv ln l1) _ _ h2)) w u0 u1 h0 h1) (by rw [es]))
    · exact owe_call1 rfl (wants_all rfl) rfl (opnd_op 4 7 (by kernel_rfl) rfl) (fresh_rn _ _) rfl (fun args w => by go_simp) (fun w u h1 => g_rrabs hD1 e1 e2 (by omega) (by omega) w u ((rn_rv l1d l2d) _ _ h1))
    · exact owe_set rfl (wants_all rfl) rfl (k := 1) rfl (by kernel_rfl) (opnd_op 5 8 (by kernel_rfl) rfl) (stores_of strct_rat shp_r0 (shp_pr shp_zn shp_zn)) rfl
  intro B2 a2 W2 S2
  replace S2 : Sta w 9 [(1, (.box 26 (PR (Zv A k1) (Zv ((D : Int)) k2)))), (2, (.box 26 ((RN (((nd.natAbs : Nat) : Int)) dd) w.heap.size)))] [] B2 a2 W2 := S2
  refine wp_ret ?_
  exact end_one S2 rfl (res_cell S2 1 2 rfl strct_rat (shp_pr shp_zn shp_zn))

set_option maxHeartbeats 2000000 in
theorem rounds_w (w : World) (A : Int) (D k1 k2 : Nat) (u : Value) (h : Rv A (D : Int) k1 k2 u w) (hk1 : k1 ≤ 1048576) (hk2 : k2 ≤ 1048576) (hD : D ≠ 0) (n : Int) (en : nr A (D : Int) = n) (ln : (digs n.natAbs).length ≤ 1048577) (nd : Int) (dd : Nat) (e1 : nR (adN A (-n) D 1) (D * 1) = nd) (e2 : dR (adN A (-n) D 1) (D * 1) = dd) (l1d : (digs nd.natAbs).length ≤ 8388608) (l2d : (digs dd).length ≤ 8388608) (zd : dd ≠ 0) (es : RN (nR (A * ((dR (-n) 1 : Nat) : Int) + nR (-n) 1 * ((D : Nat) : Int)) (D * dR (-n) 1)) (dR (A * ((dR (-n) 1 : Nat) : Int) + nR (-n) 1 * ((D : Nat) : Int)) (D * dR (-n) 1)) = RN nd dd) (hD1 : D * 1 ≠ 0) (sD : decide (0 < (D : Int).sign) = true) :
    Calls Tryz.prog 4 #[u] w (Gives (IS (.bool true)) w) := by
  refine calls_sta (sl := [(0, (PR (Zv A k1) (Zv ((D : Int)) k2)))]) Tryz.func4 rfl Tryz.ntmps4 (by simp) (args_cons rfl (rv_has h) args_nil) ?_
  intro a0 S0
  refine wp_stmt_seq [.new (.box 26 (PR (Zv A k1) (Zv ((D : Int)) k2))),
      .val (Is (.bool false))] [.inl 0] [.inl 1] follows S0 rfl (by kernel_rfl) ?_ ?_
  · refine ⟨⟨trivial, ?_⟩, ?_⟩
    · exact owe_box rfl (wants_all rfl) rfl (opnd_slot 0 0 rfl (by kernel_rfl)) rfl (fun ρ w h => box_rat (shp_pr shp_zv shp_zv) ρ _ _ w h)
    · exact owe_move rfl (wants_all rfl) (Or.inr rfl) (opnd_const _) rfl
  intro B1 a1 W1 S1
  replace S1 : Sta w 86 [(1, (.box 26 (PR (Zv A k1) (Zv ((D : Int)) k2))))] [(2, (Is (.bool false)))] B1 a1 W1 := S1
  refine wp_stmt_seq [.val (PR (Zv A k1) (Zv ((D : Int)) k2)),
      .val ((TWO (ZN (fl A (D : Int))) (IS (.int .i64 0))) w.heap.size),
      .val ((TWO (ZN (fl A (D : Int))) (IS (.int .i64 0))) w.heap.size),
      .val ((ZN (fl A (D : Int))) w.heap.size),
      .val (Is (.int .i64 0)),
      .new (.box 24 (Is (.agg #[.bool false, .slice none 0 0]))),
      .put (.inr 5) (.box 24 ((ZN (fl A (D : Int))) w.heap.size)),
      .val (Is (.int .i64 0))] [.inr 0, .inl 5] [.inl 7, .inr 0] follows S1 rfl (by kernel_rfl) ?_ ?_
  · refine ⟨⟨⟨⟨⟨⟨⟨⟨trivial, ?_⟩, ?_⟩, ?_⟩, ?_⟩, ?_⟩, ?_⟩, ?_⟩, ?_⟩
    · exact owe_load rfl (wants_all rfl) rfl (k := 0) rfl (by kernel_rfl) (loads_of strct_rat (shp_pr shp_zv shp_zv)) rfl
    · exact owe_call1 rfl (wants_all rfl) rfl (opnd_op 0 10 (by kernel_rfl) rfl) (fresh_two (fresh_zn _) (fresh_is _)) rfl (fun args w => by go_simp) (fun w u h1 => g_ratfloor hD (by omega) (by omega) w u ((pr_imp (fun _ _ h => h) (fun _ _ h => h)) _ _ h1))
    · exact owe_move rfl (wants_all rfl) (Or.inl rfl) (opnd_op 1 11 (by kernel_rfl) rfl) rfl
    · exact owe_ext2 rfl (wants_all rfl) rfl (opnd_op 2 9 (by kernel_rfl) rfl) (Or.inl ⟨rfl, rfl⟩) rfl
    · exact owe_ext2 rfl (wants_all rfl) rfl (opnd_op 2 9 (by kernel_rfl) rfl) (Or.inr ⟨rfl, rfl⟩) rfl
    · exact owe_new rfl (wants_all rfl) rfl rfl (fun ρ w => alloc_int ρ _ w)
    · exact owe_put 5 rfl (wants_all rfl) rfl (by kernel_rfl) rfl (opnd_op 3 12 (by kernel_rfl) rfl) (stores_of strct_int shp_z0 shp_zn) rfl
    · exact owe_move rfl (wants_all rfl) (Or.inr rfl) (opnd_op 4 13 (by kernel_rfl) rfl) rfl
  intro B2 a2 W2 S2
  replace S2 : Sta w 86 [(1, (.box 26 (PR (Zv A k1) (Zv ((D : Int)) k2)))), (3, (.box 24 ((ZN (fl A (D : Int))) w.heap.size)))] [(4, (Is (.int .i64 0))), (2, (Is (.bool false)))] B2 a2 W2 := S2
  refine wp_stmt_seq [.val (PR (Zv A k1) (Zv ((D : Int)) k2)),
      .val ((TWO (ZN (nr A (D : Int))) (IS (.int .i64 0))) w.heap.size),
      .val ((TWO (ZN (nr A (D : Int))) (IS (.int .i64 0))) w.heap.size),
      .val ((ZN (nr A (D : Int))) w.heap.size),
      .val (Is (.int .i64 0)),
      .new (.box 24 (Is (.agg #[.bool false, .slice none 0 0]))),
      .put (.inr 5) (.box 24 ((ZN (nr A (D : Int))) w.heap.size)),
      .val (Is (.int .i64 0))] [.inr 0, .inr 1, .inl 5] [.inl 7, .inr 0, .inr 1] follows S2 rfl (by kernel_rfl) ?_ ?_
  · refine ⟨⟨⟨⟨⟨⟨⟨⟨trivial, ?_⟩, ?_⟩, ?_⟩, ?_⟩, ?_⟩, ?_⟩, ?_⟩, ?_⟩
    · exact owe_load rfl (wants_all rfl) rfl (k := 0) rfl (by kernel_rfl) (loads_of strct_rat (shp_pr shp_zv shp_zv)) rfl
    · exact owe_call1 rfl (wants_all rfl) rfl (opnd_op 0 15 (by kernel_rfl) rfl) (fresh_two (fresh_zn _) (fresh_is _)) rfl (fun args w => by go_simp) (fun w u h1 => g_ratnear hD (by omega) (by omega) w u ((pr_imp (fun _ _ h => h) (fun _ _ h => h)) _ _ h1))
    · exact owe_move rfl (wants_all rfl) (Or.inl rfl) (opnd_op 1 16 (by kernel_rfl) rfl) rfl
    · exact owe_ext2 rfl (wants_all rfl) rfl (opnd_op 2 14 (by kernel_rfl) rfl) (Or.inl ⟨rfl, rfl⟩) rfl
    · exact owe_ext2 rfl (wants_all rfl) rfl (opnd_op 2 14 (by kernel_rfl) rfl) (Or.inr ⟨rfl, rfl⟩) rfl
    · exact owe_new rfl (wants_all rfl) rfl rfl (fun ρ w => alloc_int ρ _ w)
    · exact owe_put 5 rfl (wants_all rfl) rfl (by kernel_rfl) rfl (opnd_op 3 17 (by kernel_rfl) rfl) (stores_of strct_int shp_z0 shp_zn) rfl
    · exact owe_move rfl (wants_all rfl) (Or.inr rfl) (opnd_op 4 18 (by kernel_rfl) rfl) rfl
  intro B3 a3 W3 S3
  replace S3 : Sta w 86 [(1, (.box 26 (PR (Zv A k1) (Zv ((D : Int)) k2)))), (3, (.box 24 ((ZN (fl A (D : Int))) w.heap.size))), (5, (.box 24 ((ZN (nr A (D : Int))) w.heap.size)))] [(6, (Is (.int .i64 0))), (4, (Is (.int .i64 0))), (2, (Is (.bool false)))] B3 a3 W3 := S3
  refine wp_stmt_seq [.val (PR (Zv A k1) (Zv ((D : Int)) k2)),
      .val ((TWO (RN (((nd.natAbs : Nat) : Int)) dd) (IS (.int .i64 0))) w.heap.size),
      .val ((TWO (RN (((nd.natAbs : Nat) : Int)) dd) (IS (.int .i64 0))) w.heap.size),
      .val ((RN (((nd.natAbs : Nat) : Int)) dd) w.heap.size),
      .val (Is (.int .i64 0)),
      .new (.box 26 (Is (.agg #[.bool false, .slice none 0 0, .bool false, .slice none 0 0]))),
      .put (.inr 5) (.box 26 ((RN (((nd.natAbs : Nat) : Int)) dd) w.heap.size)),
      .val (Is (.int .i64 0))] [.inr 0, .inr 1, .inr 2, .inl 5] [.inl 7, .inr 0, .inr 1, .inr 2] follows S3 rfl (by kernel_rfl) ?_ ?_
  · refine ⟨⟨⟨⟨⟨⟨⟨⟨trivial, ?_⟩, ?_⟩, ?_⟩, ?_⟩, ?_⟩, ?_⟩, ?_⟩, ?_⟩
    · exact owe_load rfl (wants_all rfl) rfl (k := 0) rfl (by kernel_rfl) (loads_of strct_rat (shp_pr shp_zv shp_zv)) rfl
    · exact owe_call1 rfl (wants_all rfl) rfl (opnd_op 0 20 (by kernel_rfl) rfl) (fresh_two (fresh_rn _ _) (fresh_is _)) rfl (fun args w => by go_simp) (fun w u h1 => ratdist_w w A D k1 k2 u ((pr_imp (fun _ _ h => h) (fun _ _ h => h)) _ _ h1) hk1 hk2 hD n en ln nd dd e1 e2 l1d l2d zd)
    · exact owe_move rfl (wants_all rfl) (Or.inl rfl) (opnd_op 1 21 (by kernel_rfl) rfl) rfl
    · exact owe_ext2 rfl (wants_all rfl) rfl (opnd_op 2 19 (by kernel_rfl) rfl) (Or.inl ⟨rfl, rfl⟩) rfl
    · exact owe_ext2 rfl (wants_all rfl) rfl (opnd_op 2 19 (by kernel_rfl) rfl) (Or.inr ⟨rfl, rfl⟩) rfl
    · exact owe_new rfl (wants_all rfl) rfl rfl (fun ρ w => alloc_rat ρ _ w)
    · exact owe_put 5 rfl (wants_all rfl) rfl (by kernel_rfl) rfl (opnd_op 3 22 (by kernel_rfl) rfl) (stores_of strct_rat shp_r0 (shp_pr shp_zn shp_zn)) rfl
    · exact owe_move rfl (wants_all rfl) (Or.inr rfl) (opnd_op 4 23 (by kernel_rfl) rfl) rfl
  intro B4 a4 W4 S4
  replace S4 : Sta w 86 [(1, (.box 26 (PR (Zv A k1) (Zv ((D : Int)) k2)))), (3, (.box 24 ((ZN (fl A (D : Int))) w.heap.size))), (5, (.box 24 ((ZN (nr A (D : Int))) w.heap.size))), (7, (.box 26 ((RN (((nd.natAbs : Nat) : Int)) dd) w.heap.size)))] [(8, (Is (.int .i64 0))), (6, (Is (.int .i64 0))), (4, (Is (.int .i64 0))), (2, (Is (.bool false)))] B4 a4 W4 := S4
  refine wp_seq ?_
  refine wp_stmt_seq [.val (PR (Zv A k1) (Zv ((D : Int)) k2)),
      .val (Is (.bool true)),
      .val (Is (.bool false))] [.inr 0, .inr 1, .inr 2, .inr 3] [.inl 2, .inr 0, .inr 1, .inr 2, .inr 3] follows S4 rfl (by kernel_rfl) ?_ ?_
  · refine ⟨⟨⟨trivial, ?_⟩, ?_⟩, ?_⟩
    · exact owe_load rfl (wants_all rfl) rfl (k := 0) rfl (by kernel_rfl) (loads_of strct_rat (shp_pr shp_zv shp_zv)) rfl
    · exact owe_call1 rfl (wants_all rfl) rfl (opnd_op 0 24 (by kernel_rfl) rfl) (fresh_is _) rfl (fun args w => by go_simp) (fun w u0 h0 => Gives.cast ((fun w u h1 => g_rok (by omega) (by omega) w u ((pr_imp (fun _ _ h => h) (fun _ _ h => h)) _ _ h1)) w u0 h0) (by rw [sD]))
    · exact owe_un (x := .tmp 25) rfl (wants_all rfl) rfl (opnd_op 1 25 (by kernel_rfl) rfl) rfl (fun ρ w h1 => run_not ρ _ _ w _ h1)
  intro B5 a5 W5 S5
  replace S5 : Sta w 86 [(1, (.box 26 (PR (Zv A k1) (Zv ((D : Int)) k2)))), (3, (.box 24 ((ZN (fl A (D : Int))) w.heap.size))), (5, (.box 24 ((ZN (nr A (D : Int))) w.heap.size))), (7, (.box 26 ((RN (((nd.natAbs : Nat) : Int)) dd) w.heap.size)))] [(26, (Is (.bool false))), (8, (Is (.int .i64 0))), (6, (Is (.int .i64 0))), (4, (Is (.int .i64 0))), (2, (Is (.bool false)))] B5 a5 W5 := S5
  refine wp_cond_false (S5.bool 0 26 rfl) ?_
  refine wp_skip ?_
  refine thenN ?_
  refine wp_stmt_seq [.val (Is (.int .i64 0)),
      .val (Is (.bool true)),
      .val (Is (.bool true)),
      .val (Is (.int .i64 0)),
      .val (Is (.bool true)),
      .val (Is (.bool true)),
      .val (Is (.bool true)),
      .val (Is (.int .i64 0)),
      .val (Is (.bool true)),
      .val (Is (.bool true)),
      .val (Is (.bool true)),
      .val ((ZN (fl A (D : Int))) w.heap.size),
      .val (PR (Zv A k1) (Zv ((D : Int)) k2)),
      .val ((ZN (fl A (D : Int))) w.heap.size),
      .val (Is (.bool true)),
      .val (Is (.bool true)),
      .val (Is (.bool true)),
      .val ((ZN (nr A (D : Int))) w.heap.size),
      .val (PR (Zv A k1) (Zv ((D : Int)) k2)),
      .val ((ZN (nr A (D : Int))) w.heap.size),
      .val (Is (.bool true)),
      .val (Is (.bool true)),
      .val (Is (.bool true)),
      .val ((RN (((nd.natAbs : Nat) : Int)) dd) w.heap.size),
      .val (PR (Zv A k1) (Zv ((D : Int)) k2)),
      .val ((RN (((nd.natAbs : Nat) : Int)) dd) w.heap.size),
      .val (Is (.bool true)),
      .val (Is (.bool true)),
      .val (Is (.bool true)),
      .val (Is (.bool true)),
      .val (Is (.bool true)),
      .val (Is (.bool true))] [.inr 0, .inr 1, .inr 2, .inr 3] [.inl 31, .inr 0, .inr 1, .inr 2, .inr 3] follows S5 rfl (by kernel_rfl) ?_ ?_
  · refine ⟨⟨⟨⟨⟨⟨⟨⟨⟨⟨⟨⟨⟨⟨⟨⟨⟨⟨⟨⟨⟨⟨⟨⟨⟨⟨⟨⟨⟨⟨⟨⟨trivial, ?_⟩, ?_⟩, ?_⟩, ?_⟩, ?_⟩, ?_⟩, ?_⟩, ?_⟩, ?_⟩, ?_⟩, ?_⟩, ?_⟩, ?_⟩, ?_⟩, ?_⟩, ?_⟩, ?_⟩, ?_⟩, ?_⟩, ?_⟩, ?_⟩, ?_⟩, ?_⟩, ?_⟩, ?_⟩, ?_⟩, ?_⟩, ?_⟩, ?_⟩, ?_⟩, ?_⟩, ?_⟩
    · exact owe_move rfl (wants_all rfl) (Or.inl rfl) (opnd_slot 3 4 rfl (by kernel_rfl)) rfl
    · exact owe_bin rfl (wants_all rfl) rfl (opnd_op 0 55 (by kernel_rfl) rfl) (opnd_const _) rfl (fun ρ w h1 h2 => by exact run_eql_errno_t ρ _ _ _ w _ _ rfl h1 h2)
    · exact owe_move rfl (wants_all rfl) (Or.inl rfl) (opnd_op 1 56 (by kernel_rfl) rfl) rfl
    · exact owe_move rfl (wants_if 2 57 rfl (by kernel_rfl) rfl) (Or.inl rfl) (opnd_slot 2 6 rfl (by kernel_rfl)) rfl
    · exact owe_bin rfl (wants_if 2 57 rfl (by kernel_rfl) rfl) rfl (opnd_op 3 58 (by kernel_rfl) rfl) (opnd_const _) rfl (fun ρ w h1 h2 => by exact run_eql_errno_t ρ _ _ _ w _ _ rfl h1 h2)
    · exact owe_pick rfl (wants_all rfl) rfl (opnd_op 2 57 (by kernel_rfl) rfl) (fun _ => (opnd_op 4 59 (by kernel_rfl) rfl)) (fun h => nomatch h) rfl
    · exact owe_move rfl (wants_all rfl) (Or.inl rfl) (opnd_op 5 60 (by kernel_rfl) rfl) rfl
    · exact owe_move rfl (wants_if 6 61 rfl (by kernel_rfl) rfl) (Or.inl rfl) (opnd_slot 1 8 rfl (by kernel_rfl)) rfl
    · exact owe_bin rfl (wants_if 6 61 rfl (by kernel_rfl) rfl) rfl (opnd_op 7 62 (by kernel_rfl) rfl) (opnd_const _) rfl (fun ρ w h1 h2 => by exact run_eql_errno_t ρ _ _ _ w _ _ rfl h1 h2)
    · exact owe_pick rfl (wants_all rfl) rfl (opnd_op 6 61 (by kernel_rfl) rfl) (fun _ => (opnd_op 8 63 (by kernel_rfl) rfl)) (fun h => nomatch h) rfl
    · exact owe_move rfl (wants_all rfl) (Or.inl rfl) (opnd_op 9 64 (by kernel_rfl) rfl) rfl
    · exact owe_load rfl (wants_if 10 65 rfl (by kernel_rfl) rfl) rfl (k := 1) rfl (by kernel_rfl) (loads_of strct_int shp_zn) rfl
    · exact owe_load rfl (wants_if 10 65 rfl (by kernel_rfl) rfl) rfl (k := 0) rfl (by kernel_rfl) (loads_of strct_rat (shp_pr shp_zv shp_zv)) rfl
    · exact owe_call1 rfl (wants_if 10 65 rfl (by kernel_rfl) rfl) rfl (opnd_op 12 67 (by kernel_rfl) rfl) (fresh_zn _) rfl (fun args w => by go_simp) (fun w u h1 => g_rrfloor hD (by omega) (by omega) w u ((pr_imp (fun _ _ h => h) (fun _ _ h => h)) _ _ h1))
    · exact owe_call2 rfl (wants_if 10 65 rfl (by kernel_rfl) rfl) rfl (opnd_op 11 66 (by kernel_rfl) rfl) (opnd_op 13 68 (by kernel_rfl) rfl) (fresh_is _) rfl (fun args w => by go_simp) g_whole
    · exact owe_pick rfl (wants_all rfl) rfl (opnd_op 10 65 (by kernel_rfl) rfl) (fun _ => (opnd_op 14 69 (by kernel_rfl) rfl)) (fun h => nomatch h) rfl
    · exact owe_move rfl (wants_all rfl) (Or.inl rfl) (opnd_op 15 70 (by kernel_rfl) rfl) rfl
    · exact owe_load rfl (wants_if 16 71 rfl (by kernel_rfl) rfl) rfl (k := 2) rfl (by kernel_rfl) (loads_of strct_int shp_zn) rfl
    · exact owe_load rfl (wants_if 16 71 rfl (by kernel_rfl) rfl) rfl (k := 0) rfl (by kernel_rfl) (loads_of strct_rat (shp_pr shp_zv shp_zv)) rfl
    · exact owe_call1 rfl (wants_if 16 71 rfl (by kernel_rfl) rfl) rfl (opnd_op 18 73 (by kernel_rfl) rfl) (fresh_zn _) rfl (fun args w => by go_simp) (fun w u h1 => g_rrnear hD (by omega) (by omega) w u ((pr_imp (fun _ _ h => h) (fun _ _ h => h)) _ _ h1))
    · exact owe_call2 rfl (wants_if 16 71 rfl (by kernel_rfl) rfl) rfl (opnd_op 17 72 (by kernel_rfl) rfl) (opnd_op 19 74 (by kernel_rfl) rfl) (fresh_is _) rfl (fun args w => by go_simp) g_whole
    · exact owe_pick rfl (wants_all rfl) rfl (opnd_op 16 71 (by kernel_rfl) rfl) (fun _ => (opnd_op 20 75 (by kernel_rfl) rfl)) (fun h => nomatch h) rfl
    · exact owe_move rfl (wants_all rfl) (Or.inl rfl) (opnd_op 21 76 (by kernel_rfl) rfl) rfl
    · exact owe_load rfl (wants_if 22 77 rfl (by kernel_rfl) rfl) rfl (k := 3) rfl (by kernel_rfl) (loads_of strct_rat (shp_pr shp_zn shp_zn)) rfl
    · exact owe_load rfl (wants_if 22 77 rfl (by kernel_rfl) rfl) rfl (k := 0) rfl (by kernel_rfl) (loads_of strct_rat (shp_pr shp_zv shp_zv)) rfl
    · exact owe_call1 rfl (wants_if 22 77 rfl (by kernel_rfl) rfl) rfl (opnd_op 24 79 (by kernel_rfl) rfl) (fresh_rn _ _) rfl (fun args w => by go_simp) (fun w u h1 => rrdist_w w A D k1 k2 u ((pr_imp (fun _ _ h => h) (fun _ _ h => h)) _ _ h1) hk1 hk2 hD n en ln nd dd e1 e2 l1d l2d zd es hD1)
    · exact owe_call2 rfl (wants_if 22 77 rfl (by kernel_rfl) rfl) rfl (opnd_op 23 78 (by kernel_rfl) rfl) (opnd_op 25 80 (by kernel_rfl) rfl) (fresh_is _) rfl (fun args w => by go_simp) g_same
    · exact owe_pick rfl (wants_all rfl) rfl (opnd_op 22 77 (by kernel_rfl) rfl) (fun _ => (opnd_op 26 81 (by kernel_rfl) rfl)) (fun h => nomatch h) rfl
    · exact owe_move rfl (wants_all rfl) (Or.inl rfl) (opnd_op 27 82 (by kernel_rfl) rfl) rfl
    · exact owe_call0 rfl (wants_if 28 83 rfl (by kernel_rfl) rfl) rfl  (fresh_is _) rfl (fun args w => by go_simp) g_awake
    · exact owe_pick rfl (wants_all rfl) rfl (opnd_op 28 83 (by kernel_rfl) rfl) (fun _ => (opnd_op 29 84 (by kernel_rfl) rfl)) (fun h => nomatch h) rfl
    · exact owe_move rfl (wants_all rfl) (Or.inr rfl) (opnd_op 30 85 (by kernel_rfl) rfl) rfl
  intro B6 a6 W6 S6
  replace S6 : Sta w 86 [(1, (.box 26 (PR (Zv A k1) (Zv ((D : Int)) k2)))), (3, (.box 24 ((ZN (fl A (D : Int))) w.heap.size))), (5, (.box 24 ((ZN (nr A (D : Int))) w.heap.size))), (7, (.box 26 ((RN (((nd.natAbs : Nat) : Int)) dd) w.heap.size)))] [(2, (Is (.bool true))), (26, (Is (.bool false))), (8, (Is (.int .i64 0))), (6, (Is (.int .i64 0))), (4, (Is (.int .i64 0)))] B6 a6 W6 := S6
  refine wp_ret ?_
  exact end_one S6 rfl (res_tmp S6 0 2 rfl)

set_option maxHeartbeats 2000000 in
theorem rounds_b (w : World) (A D : Int) (k1 k2 : Nat) (u : Value) (h : Rv A D k1 k2 u w) (hk1 : k1 ≤ 8388608) (hk2 : k2 ≤ 8388608) (hmf : decide (0 < D.sign) = false) :
    Calls Tryz.prog 4 #[u] w (Gives (IS (.bool true)) w) := by
  refine calls_sta (sl := [(0, (PR (Zv A k1) (Zv D k2)))]) Tryz.func4 rfl Tryz.ntmps4 (by simp) (args_cons rfl (rv_has h) args_nil) ?_
  intro a0 S0
  refine wp_stmt_seq [.new (.box 26 (PR (Zv A k1) (Zv D k2))),
      .val (Is (.bool false))] [.inl 0] [.inl 1] follows S0 rfl (by kernel_rfl) ?_ ?_
  · refine ⟨⟨trivial, ?_⟩, ?_⟩
    · exact owe_box rfl (wants_all rfl) rfl (opnd_slot 0 0 rfl (by kernel_rfl)) rfl (fun ρ w h => box_rat (shp_pr shp_zv shp_zv) ρ _ _ w h)
    · exact owe_move rfl (wants_all rfl) (Or.inr rfl) (opnd_const _) rfl
  intro B1 a1 W1 S1
  replace S1 : Sta w 86 [(1, (.box 26 (PR (Zv A k1) (Zv D k2))))] [(2, (Is (.bool false)))] B1 a1 W1 := S1
  refine wp_stmt_seq [.val (PR (Zv A k1) (Zv D k2)),
      .val ((TWO (IS (.agg #[.bool false, .slice none 0 0])) (IS (.int .i64 30))) w.heap.size),
      .val ((TWO (IS (.agg #[.bool false, .slice none 0 0])) (IS (.int .i64 30))) w.heap.size),
      .val (Is (.agg #[.bool false, .slice none 0 0])),
      .val (Is (.int .i64 30)),
      .new (.box 24 (Is (.agg #[.bool false, .slice none 0 0]))),
      .put (.inr 5) (.box 24 (Is (.agg #[.bool false, .slice none 0 0]))),
      .val (Is (.int .i64 30))] [.inr 0, .inl 5] [.inl 7, .inr 0] follows S1 rfl (by kernel_rfl) ?_ ?_
  · refine ⟨⟨⟨⟨⟨⟨⟨⟨trivial, ?_⟩, ?_⟩, ?_⟩, ?_⟩, ?_⟩, ?_⟩, ?_⟩, ?_⟩
    · exact owe_load rfl (wants_all rfl) rfl (k := 0) rfl (by kernel_rfl) (loads_of strct_rat (shp_pr shp_zv shp_zv)) rfl
    · exact owe_call1 rfl (wants_all rfl) rfl (opnd_op 0 10 (by kernel_rfl) rfl) (fresh_two (fresh_is _) (fresh_is _)) rfl (fun args w => by go_simp) (fun w u h1 => ratfloor_b w A D k1 k2 u ((pr_imp (fun _ _ h => h) (fun _ _ h => h)) _ _ h1) (by omega) (by omega) hmf)
    · exact owe_move rfl (wants_all rfl) (Or.inl rfl) (opnd_op 1 11 (by kernel_rfl) rfl) rfl
    · exact owe_ext2 rfl (wants_all rfl) rfl (opnd_op 2 9 (by kernel_rfl) rfl) (Or.inl ⟨rfl, rfl⟩) rfl
    · exact owe_ext2 rfl (wants_all rfl) rfl (opnd_op 2 9 (by kernel_rfl) rfl) (Or.inr ⟨rfl, rfl⟩) rfl
    · exact owe_new rfl (wants_all rfl) rfl rfl (fun ρ w => alloc_int ρ _ w)
    · exact owe_put 5 rfl (wants_all rfl) rfl (by kernel_rfl) rfl (opnd_op 3 12 (by kernel_rfl) rfl) (stores_of strct_int shp_z0 shp_z0) rfl
    · exact owe_move rfl (wants_all rfl) (Or.inr rfl) (opnd_op 4 13 (by kernel_rfl) rfl) rfl
  intro B2 a2 W2 S2
  replace S2 : Sta w 86 [(1, (.box 26 (PR (Zv A k1) (Zv D k2)))), (3, (.box 24 (Is (.agg #[.bool false, .slice none 0 0]))))] [(4, (Is (.int .i64 30))), (2, (Is (.bool false)))] B2 a2 W2 := S2
  refine wp_stmt_seq [.val (PR (Zv A k1) (Zv D k2)),
      .val ((TWO (IS (.agg #[.bool false, .slice none 0 0])) (IS (.int .i64 30))) w.heap.size),
      .val ((TWO (IS (.agg #[.bool false, .slice none 0 0])) (IS (.int .i64 30))) w.heap.size),
      .val (Is (.agg #[.bool false, .slice none 0 0])),
      .val (Is (.int .i64 30)),
      .new (.box 24 (Is (.agg #[.bool false, .slice none 0 0]))),
      .put (.inr 5) (.box 24 (Is (.agg #[.bool false, .slice none 0 0]))),
      .val (Is (.int .i64 30))] [.inr 0, .inr 1, .inl 5] [.inl 7, .inr 0, .inr 1] follows S2 rfl (by kernel_rfl) ?_ ?_
  · refine ⟨⟨⟨⟨⟨⟨⟨⟨trivial, ?_⟩, ?_⟩, ?_⟩, ?_⟩, ?_⟩, ?_⟩, ?_⟩, ?_⟩
    · exact owe_load rfl (wants_all rfl) rfl (k := 0) rfl (by kernel_rfl) (loads_of strct_rat (shp_pr shp_zv shp_zv)) rfl
    · exact owe_call1 rfl (wants_all rfl) rfl (opnd_op 0 15 (by kernel_rfl) rfl) (fresh_two (fresh_is _) (fresh_is _)) rfl (fun args w => by go_simp) (fun w u h1 => ratnear_b w A D k1 k2 u ((pr_imp (fun _ _ h => h) (fun _ _ h => h)) _ _ h1) (by omega) (by omega) hmf)
    · exact owe_move rfl (wants_all rfl) (Or.inl rfl) (opnd_op 1 16 (by kernel_rfl) rfl) rfl
    · exact owe_ext2 rfl (wants_all rfl) rfl (opnd_op 2 14 (by kernel_rfl) rfl) (Or.inl ⟨rfl, rfl⟩) rfl
    · exact owe_ext2 rfl (wants_all rfl) rfl (opnd_op 2 14 (by kernel_rfl) rfl) (Or.inr ⟨rfl, rfl⟩) rfl
    · exact owe_new rfl (wants_all rfl) rfl rfl (fun ρ w => alloc_int ρ _ w)
    · exact owe_put 5 rfl (wants_all rfl) rfl (by kernel_rfl) rfl (opnd_op 3 17 (by kernel_rfl) rfl) (stores_of strct_int shp_z0 shp_z0) rfl
    · exact owe_move rfl (wants_all rfl) (Or.inr rfl) (opnd_op 4 18 (by kernel_rfl) rfl) rfl
  intro B3 a3 W3 S3
  replace S3 : Sta w 86 [(1, (.box 26 (PR (Zv A k1) (Zv D k2)))), (3, (.box 24 (Is (.agg #[.bool false, .slice none 0 0])))), (5, (.box 24 (Is (.agg #[.bool false, .slice none 0 0]))))] [(6, (Is (.int .i64 30))), (4, (Is (.int .i64 30))), (2, (Is (.bool false)))] B3 a3 W3 := S3
  refine wp_stmt_seq [.val (PR (Zv A k1) (Zv D k2)),
      .val ((TWO (IS (.agg #[.bool false, .slice none 0 0, .bool false, .slice none 0 0])) (IS (.int .i64 30))) w.heap.size),
      .val ((TWO (IS (.agg #[.bool false, .slice none 0 0, .bool false, .slice none 0 0])) (IS (.int .i64 30))) w.heap.size),
      .val (Is (.agg #[.bool false, .slice none 0 0, .bool false, .slice none 0 0])),
      .val (Is (.int .i64 30)),
      .new (.box 26 (Is (.agg #[.bool false, .slice none 0 0, .bool false, .slice none 0 0]))),
      .put (.inr 5) (.box 26 (Is (.agg #[.bool false, .slice none 0 0, .bool false, .slice none 0 0]))),
      .val (Is (.int .i64 30))] [.inr 0, .inr 1, .inr 2, .inl 5] [.inl 7, .inr 0, .inr 1, .inr 2] follows S3 rfl (by kernel_rfl) ?_ ?_
  · refine ⟨⟨⟨⟨⟨⟨⟨⟨trivial, ?_⟩, ?_⟩, ?_⟩, ?_⟩, ?_⟩, ?_⟩, ?_⟩, ?_⟩
    · exact owe_load rfl (wants_all rfl) rfl (k := 0) rfl (by kernel_rfl) (loads_of strct_rat (shp_pr shp_zv shp_zv)) rfl
    · exact owe_call1 rfl (wants_all rfl) rfl (opnd_op 0 20 (by kernel_rfl) rfl) (fresh_two (fresh_is _) (fresh_is _)) rfl (fun args w => by go_simp) (fun w u h1 => ratdist_b w A D k1 k2 u ((pr_imp (fun _ _ h => h) (fun _ _ h => h)) _ _ h1) (by omega) (by omega) hmf)
    · exact owe_move rfl (wants_all rfl) (Or.inl rfl) (opnd_op 1 21 (by kernel_rfl) rfl) rfl
    · exact owe_ext2 rfl (wants_all rfl) rfl (opnd_op 2 19 (by kernel_rfl) rfl) (Or.inl ⟨rfl, rfl⟩) rfl
    · exact owe_ext2 rfl (wants_all rfl) rfl (opnd_op 2 19 (by kernel_rfl) rfl) (Or.inr ⟨rfl, rfl⟩) rfl
    · exact owe_new rfl (wants_all rfl) rfl rfl (fun ρ w => alloc_rat ρ _ w)
    · exact owe_put 5 rfl (wants_all rfl) rfl (by kernel_rfl) rfl (opnd_op 3 22 (by kernel_rfl) rfl) (stores_of strct_rat shp_r0 shp_r0) rfl
    · exact owe_move rfl (wants_all rfl) (Or.inr rfl) (opnd_op 4 23 (by kernel_rfl) rfl) rfl
  intro B4 a4 W4 S4
  replace S4 : Sta w 86 [(1, (.box 26 (PR (Zv A k1) (Zv D k2)))), (3, (.box 24 (Is (.agg #[.bool false, .slice none 0 0])))), (5, (.box 24 (Is (.agg #[.bool false, .slice none 0 0])))), (7, (.box 26 (Is (.agg #[.bool false, .slice none 0 0, .bool false, .slice none 0 0]))))] [(8, (Is (.int .i64 30))), (6, (Is (.int .i64 30))), (4, (Is (.int .i64 30))), (2, (Is (.bool false)))] B4 a4 W4 := S4
  refine wp_seq ?_
  refine wp_stmt_seq [.val (PR (Zv A k1) (Zv D k2)),
      .val (Is (.bool false)),
      .val (Is (.bool true))] [.inr 0, .inr 1, .inr 2, .inr 3] [.inl 2, .inr 0, .inr 1, .inr 2, .inr 3] follows S4 rfl (by kernel_rfl) ?_ ?_
  · refine ⟨⟨⟨trivial, ?_⟩, ?_⟩, ?_⟩
    · exact owe_load rfl (wants_all rfl) rfl (k := 0) rfl (by kernel_rfl) (loads_of strct_rat (shp_pr shp_zv shp_zv)) rfl
    · exact owe_call1 rfl (wants_all rfl) rfl (opnd_op 0 24 (by kernel_rfl) rfl) (fresh_is _) rfl (fun args w => by go_simp) (fun w u0 h0 => Gives.cast ((fun w u h1 => g_rok (by omega) (by omega) w u ((pr_imp (fun _ _ h => h) (fun _ _ h => h)) _ _ h1)) w u0 h0) (by rw [hmf]))
    · exact owe_un (x := .tmp 25) rfl (wants_all rfl) rfl (opnd_op 1 25 (by kernel_rfl) rfl) rfl (fun ρ w h1 => run_not ρ _ _ w _ h1)
  intro B5 a5 W5 S5
  replace S5 : Sta w 86 [(1, (.box 26 (PR (Zv A k1) (Zv D k2)))), (3, (.box 24 (Is (.agg #[.bool false, .slice none 0 0])))), (5, (.box 24 (Is (.agg #[.bool false, .slice none 0 0])))), (7, (.box 26 (Is (.agg #[.bool false, .slice none 0 0, .bool false, .slice none 0 0]))))] [(26, (Is (.bool true))), (8, (Is (.int .i64 30))), (6, (Is (.int .i64 30))), (4, (Is (.int .i64 30))), (2, (Is (.bool false)))] B5 a5 W5 := S5
  refine wp_cond_true (S5.bool 0 26 rfl) ?_
  refine wp_stmt_seq [.val (Is (.int .i64 30)),
      .val (Is (.bool true)),
      .val (Is (.bool true)),
      .val (Is (.int .i64 30)),
      .val (Is (.bool true)),
      .val (Is (.bool true)),
      .val (Is (.bool true)),
      .val (Is (.int .i64 30)),
      .val (Is (.bool true)),
      .val (Is (.bool true)),
      .val (Is (.bool true)),
      .val (Is (.agg #[.bool false, .slice none 0 0])),
      .val (Is (.agg #[.bool false, .slice none 0 0])),
      .val (Is (.bool true)),
      .val (Is (.bool true)),
      .val (Is (.bool true)),
      .val (Is (.agg #[.bool false, .slice none 0 0])),
      .val (Is (.agg #[.bool false, .slice none 0 0])),
      .val (Is (.bool true)),
      .val (Is (.bool true)),
      .val (Is (.bool true)),
      .val (Is (.agg #[.bool false, .slice none 0 0, .bool false, .slice none 0 0])),
      .val (Is (.agg #[.bool false, .slice none 0 0, .bool false, .slice none 0 0])),
      .val (Is (.bool true)),
      .val (Is (.bool true)),
      .val (Is (.bool true)),
      .val (Is (.bool true)),
      .val (Is (.bool true)),
      .val (Is (.bool true))] [.inr 0, .inr 1, .inr 2, .inr 3] [.inl 28, .inr 0, .inr 1, .inr 2, .inr 3] follows S5 rfl (by kernel_rfl) ?_ ?_
  · refine ⟨⟨⟨⟨⟨⟨⟨⟨⟨⟨⟨⟨⟨⟨⟨⟨⟨⟨⟨⟨⟨⟨⟨⟨⟨⟨⟨⟨⟨trivial, ?_⟩, ?_⟩, ?_⟩, ?_⟩, ?_⟩, ?_⟩, ?_⟩, ?_⟩, ?_⟩, ?_⟩, ?_⟩, ?_⟩, ?_⟩, ?_⟩, ?_⟩, ?_⟩, ?_⟩, ?_⟩, ?_⟩, ?_⟩, ?_⟩, ?_⟩, ?_⟩, ?_⟩, ?_⟩, ?_⟩, ?_⟩, ?_⟩, ?_⟩
    · exact owe_move rfl (wants_all rfl) (Or.inl rfl) (opnd_slot 3 4 rfl (by kernel_rfl)) rfl
    · exact owe_bin rfl (wants_all rfl) rfl (opnd_op 0 27 (by kernel_rfl) rfl) (opnd_const _) rfl (fun ρ w h1 h2 => by exact run_eql_errno_t ρ _ _ _ w _ _ rfl h1 h2)
    · exact owe_move rfl (wants_all rfl) (Or.inl rfl) (opnd_op 1 28 (by kernel_rfl) rfl) rfl
    · exact owe_move rfl (wants_if 2 29 rfl (by kernel_rfl) rfl) (Or.inl rfl) (opnd_slot 2 6 rfl (by kernel_rfl)) rfl
    · exact owe_bin rfl (wants_if 2 29 rfl (by kernel_rfl) rfl) rfl (opnd_op 3 30 (by kernel_rfl) rfl) (opnd_const _) rfl (fun ρ w h1 h2 => by exact run_eql_errno_t ρ _ _ _ w _ _ rfl h1 h2)
    · exact owe_pick rfl (wants_all rfl) rfl (opnd_op 2 29 (by kernel_rfl) rfl) (fun _ => (opnd_op 4 31 (by kernel_rfl) rfl)) (fun h => nomatch h) rfl
    · exact owe_move rfl (wants_all rfl) (Or.inl rfl) (opnd_op 5 32 (by kernel_rfl) rfl) rfl
    · exact owe_move rfl (wants_if 6 33 rfl (by kernel_rfl) rfl) (Or.inl rfl) (opnd_slot 1 8 rfl (by kernel_rfl)) rfl
    · exact owe_bin rfl (wants_if 6 33 rfl (by kernel_rfl) rfl) rfl (opnd_op 7 34 (by kernel_rfl) rfl) (opnd_const _) rfl (fun ρ w h1 h2 => by exact run_eql_errno_t ρ _ _ _ w _ _ rfl h1 h2)
    · exact owe_pick rfl (wants_all rfl) rfl (opnd_op 6 33 (by kernel_rfl) rfl) (fun _ => (opnd_op 8 35 (by kernel_rfl) rfl)) (fun h => nomatch h) rfl
    · exact owe_move rfl (wants_all rfl) (Or.inl rfl) (opnd_op 9 36 (by kernel_rfl) rfl) rfl
    · exact owe_load rfl (wants_if 10 37 rfl (by kernel_rfl) rfl) rfl (k := 1) rfl (by kernel_rfl) (loads_of strct_int shp_z0) rfl
    · exact owe_build_int rfl (wants_if 10 37 rfl (by kernel_rfl) rfl) rfl rfl
    · exact owe_call2 rfl (wants_if 10 37 rfl (by kernel_rfl) rfl) rfl (opnd_op 11 38 (by kernel_rfl) rfl) (opnd_op 12 39 (by kernel_rfl) rfl) (fresh_is _) rfl (fun args w => by go_simp) g_whole0
    · exact owe_pick rfl (wants_all rfl) rfl (opnd_op 10 37 (by kernel_rfl) rfl) (fun _ => (opnd_op 13 40 (by kernel_rfl) rfl)) (fun h => nomatch h) rfl
    · exact owe_move rfl (wants_all rfl) (Or.inl rfl) (opnd_op 14 41 (by kernel_rfl) rfl) rfl
    · exact owe_load rfl (wants_if 15 42 rfl (by kernel_rfl) rfl) rfl (k := 2) rfl (by kernel_rfl) (loads_of strct_int shp_z0) rfl
    · exact owe_build_int rfl (wants_if 15 42 rfl (by kernel_rfl) rfl) rfl rfl
    · exact owe_call2 rfl (wants_if 15 42 rfl (by kernel_rfl) rfl) rfl (opnd_op 16 43 (by kernel_rfl) rfl) (opnd_op 17 44 (by kernel_rfl) rfl) (fresh_is _) rfl (fun args w => by go_simp) g_whole0
    · exact owe_pick rfl (wants_all rfl) rfl (opnd_op 15 42 (by kernel_rfl) rfl) (fun _ => (opnd_op 18 45 (by kernel_rfl) rfl)) (fun h => nomatch h) rfl
    · exact owe_move rfl (wants_all rfl) (Or.inl rfl) (opnd_op 19 46 (by kernel_rfl) rfl) rfl
    · exact owe_load rfl (wants_if 20 47 rfl (by kernel_rfl) rfl) rfl (k := 3) rfl (by kernel_rfl) (loads_of strct_rat shp_r0) rfl
    · exact owe_build_rat rfl (wants_if 20 47 rfl (by kernel_rfl) rfl) rfl rfl
    · exact owe_call2 rfl (wants_if 20 47 rfl (by kernel_rfl) rfl) rfl (opnd_op 21 48 (by kernel_rfl) rfl) (opnd_op 22 49 (by kernel_rfl) rfl) (fresh_is _) rfl (fun args w => by go_simp) g_same0
    · exact owe_pick rfl (wants_all rfl) rfl (opnd_op 20 47 (by kernel_rfl) rfl) (fun _ => (opnd_op 23 50 (by kernel_rfl) rfl)) (fun h => nomatch h) rfl
    · exact owe_move rfl (wants_all rfl) (Or.inl rfl) (opnd_op 24 51 (by kernel_rfl) rfl) rfl
    · exact owe_call0 rfl (wants_if 25 52 rfl (by kernel_rfl) rfl) rfl  (fresh_is _) rfl (fun args w => by go_simp) g_awake
    · exact owe_pick rfl (wants_all rfl) rfl (opnd_op 25 52 (by kernel_rfl) rfl) (fun _ => (opnd_op 26 53 (by kernel_rfl) rfl)) (fun h => nomatch h) rfl
    · exact owe_move rfl (wants_all rfl) (Or.inr rfl) (opnd_op 27 54 (by kernel_rfl) rfl) rfl
  intro B6 a6 W6 S6
  replace S6 : Sta w 86 [(1, (.box 26 (PR (Zv A k1) (Zv D k2)))), (3, (.box 24 (Is (.agg #[.bool false, .slice none 0 0])))), (5, (.box 24 (Is (.agg #[.bool false, .slice none 0 0])))), (7, (.box 26 (Is (.agg #[.bool false, .slice none 0 0, .bool false, .slice none 0 0]))))] [(2, (Is (.bool true))), (26, (Is (.bool true))), (8, (Is (.int .i64 30))), (6, (Is (.int .i64 30))), (4, (Is (.int .i64 30)))] B6 a6 W6 := S6
  refine wp_ret ?_
  refine thenR ?_
  exact end_one S6 rfl (res_tmp S6 0 2 rfl)


theorem rounds_all (w : World) (A D : Int) (k1 k2 : Nat) (u : Value) (h : Rv A D k1 k2 u w) (hk1 : k1 ≤ 1048576) (hk2 : k2 ≤ 1048576) : Calls Tryz.prog 4 #[u] w (Gives (IS (.bool true)) w) := by
  cases sD : decide (0 < D.sign) with
  | false => exact rounds_b w A D k1 k2 u h (by omega) (by omega) sD
  | true =>
    obtain ⟨D, rfl, hD⟩ := pos_of_sign sD
    have iD : (D : Int) ≠ 0 := by omega
    obtain ⟨lA, lD⟩ : (digs A.natAbs).length ≤ 1048576 ∧ (digs D).length ≤ 1048576 := by
      obtain ⟨_, _, _, _, _, a, b⟩ := h
      have := zvn_len a; have := zvn_len b; rw [Int.natAbs_natCast] at this; omega
    obtain ⟨n, en⟩ : ∃ n, nr A (D : Int) = n := ⟨_, rfl⟩
    have ln : (digs n.natAbs).length ≤ 1048577 := en ▸ near_len iD lA
    have f := nR_mul (-n) 1
    have l1 : (digs 1).length ≤ 1048577 := Nat.le_trans (digs_length_le (k := 1) (by decide)) (by decide)
    have D1 : D * 1 ≠ 0 := by omega
    refine rounds_w w A D k1 k2 u h hk1 hk2 hD n en ln _ _ rfl rfl (nR_len (Nat.le_trans (adN_len lA lD (l := 1048577) (by rw [Int.natAbs_neg]; exact ln) l1) (by decide))) (dR_len (Nat.le_trans (len_mul lD (l := 1) (digs_length_le (by decide))) (by decide))) (dR_ne D1) (low_num (Nat.mul_ne_zero hD (dR_ne (by decide))) D1 ?_) D1 sD
    simp only [Int.natCast_mul]
    unfold adN
    generalize nR (-n) 1 = x at *
    generalize ((dR (-n) 1 : Nat) : Int) = y at *
    grind
theorem ratrounds_walk (w : World) (s1 : Bool) (p1 : Option Addr) (n1 c1 : Nat) (xs1 : List Nat) (t1 : Bool) (q1 : Option Addr) (m1 d1 : Nat) (ys1 : List Nat) (h1 : Sl w p1 n1 c1 xs1) (g1 : Sl w q1 m1 d1 ys1) (b1 : c1 ≤ 1048576) (b2 : d1 ≤ 1048576) :
    Calls Tryz.prog 4 #[.agg #[.bool s1, .slice p1 n1 c1, .bool t1, .slice q1 m1 d1]] w fun e w' => e = .returned (.bool true) ∧ Below w.heap.size w w' := by
  have e1 := h1.cap; have e2 := g1.cap
  refine (rounds_all w _ _ n1 m1 _ (rv_in h1 g1) (by omega) (by omega)).mono ?_
  rintro e w' ⟨v, rfl, hb, hv⟩
  obtain rfl : v = _ := hv
  exact ⟨rfl, hb⟩
end Go.Proofs.YteamecapeghnoaaGreatDoor
