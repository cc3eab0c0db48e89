import Derived.Test.YteamecapeghnoaaGreatDoorSetR
import Derived.Test.YteamecapeghnoaaGreatDoorSetT
/-
  Rationals in lowest terms: one form for each, how long it is, what sums, products and quotients make.
-/
namespace Go.Proofs.YteamecapeghnoaaGreatDoor
open Go Go.RowKit Nt
set_option linter.unusedSimpArgs false
set_option linter.unusedVariables false
set_option maxRecDepth 20000

theorem nR_mul (P : Int) (Y : Nat) : nR P Y * (Y : Int) = P * (dR P Y : Int) := by
  have h1 := g_nR P Y
  have h2 := g_dR P Y
  have h3 : ((Nat.gcd P.natAbs Y : Nat) : Int) * (dR P Y : Int) = (Y : Int) := by rw [← Int.natCast_mul, h2]
  generalize ((Nat.gcd P.natAbs Y : Nat) : Int) = G at h1 h3
  grind
theorem nR_abs (P : Int) (Y : Nat) : (nR P Y).natAbs = P.natAbs / Nat.gcd P.natAbs Y := by unfold nR; rw [sg_abs]
theorem nR_len {P : Int} {Y k : Nat} (h : (digs P.natAbs).length ≤ k) : (digs (nR P Y).natAbs).length ≤ k := by
  rw [nR_abs]
  exact Nat.le_trans (digs_length_mono (Nat.div_le_self _ _)) h
theorem dR_len {P : Int} {Y k : Nat} (h : (digs Y).length ≤ k) : (digs (dR P Y)).length ≤ k := by
  unfold dR
  exact Nat.le_trans (digs_length_mono (Nat.div_le_self _ _)) h
theorem low_cop {P : Int} {Y : Nat} (hY : Y ≠ 0) : Nat.gcd (nR P Y).natAbs (dR P Y) = 1 := by
  rw [nR_abs]
  unfold dR
  have hg : 0 < Nat.gcd P.natAbs Y := Nat.gcd_pos_of_pos_right _ (by omega)
  exact Nat.gcd_div_gcd_div_gcd_of_pos_right (by omega)
theorem cross_eq {a b a' b' : Nat} (h : a * b' = a' * b) (c : Nat.gcd a b = 1) (c' : Nat.gcd a' b' = 1) (hb : b ≠ 0) : b = b' := by
  have h1 : b ∣ a * b' := ⟨a', by rw [h, Nat.mul_comm]⟩
  have h2 : b ∣ b' := Nat.Coprime.dvd_of_dvd_mul_left (Nat.Coprime.symm c) h1
  have h3 : b' ∣ a' * b := ⟨a, by rw [← h, Nat.mul_comm]⟩
  have h4 : b' ∣ b := Nat.Coprime.dvd_of_dvd_mul_left (Nat.Coprime.symm c') h3
  exact Nat.dvd_antisymm h2 h4
/-- One form for each rational. -/
theorem low_one {P P' : Int} {Y Y' : Nat} (hY : Y ≠ 0) (hY' : Y' ≠ 0) (h : P * (Y' : Int) = P' * (Y : Int)) : nR P Y = nR P' Y' ∧ dR P Y = dR P' Y' := by
  have e1 := nR_mul P Y
  have e2 := nR_mul P' Y'
  have hy : (Y : Int) ≠ 0 := by omega
  have hy' : (Y' : Int) ≠ 0 := by omega
  have k : nR P Y * (dR P' Y' : Int) = nR P' Y' * (dR P Y : Int) := by
    have : ((Y : Int) * (Y' : Int)) * (nR P Y * (dR P' Y' : Int)) = ((Y : Int) * (Y' : Int)) * (nR P' Y' * (dR P Y : Int)) := by
      generalize nR P Y = n at *
      generalize nR P' Y' = n' at *
      generalize (dR P Y : Int) = d at *
      generalize (dR P' Y' : Int) = d' at *
      by_cases hP : P = 0
      · have h0 : P' = 0 := by
          rw [hP, Int.zero_mul] at h
          rcases Int.mul_eq_zero.1 h.symm with h | h
          · exact h
          · exact absurd h hy
        have n0 : n = 0 := by
          rw [hP, Int.zero_mul] at e1
          rcases Int.mul_eq_zero.1 e1 with h | h
          · exact h
          · exact absurd h hy
        have n0' : n' = 0 := by
          rw [h0, Int.zero_mul] at e2
          rcases Int.mul_eq_zero.1 e2 with h | h
          · exact h
          · exact absurd h hy'
        rw [n0, n0']
        simp
      · have : P * ((Y : Int) * (Y' : Int) * (n * d')) = P * ((Y : Int) * (Y' : Int) * (n' * d)) := by grind
        exact Int.eq_of_mul_eq_mul_left hP this
    exact Int.eq_of_mul_eq_mul_left (Int.mul_ne_zero hy hy') this
  have ka : (nR P Y).natAbs * dR P' Y' = (nR P' Y').natAbs * dR P Y := by
    have := congrArg Int.natAbs k
    simpa [Int.natAbs_mul] using this
  have hd := cross_eq ka (low_cop hY) (low_cop hY') (dR_ne hY)
  refine ⟨?_, hd⟩
  rw [hd] at k
  exact Int.eq_of_mul_eq_mul_right (by have := dR_ne (X := P') hY'; omega) k
theorem low_num {P P' : Int} {Y Y' : Nat} (hY : Y ≠ 0) (hY' : Y' ≠ 0) (h : P * (Y' : Int) = P' * (Y : Int)) : RN (nR P Y) (dR P Y) = RN (nR P' Y') (dR P' Y') := by
  obtain ⟨h1, h2⟩ := low_one hY hY' h
  rw [h1, h2]
theorem run_gtr_int_d (ρ : Operand → Value) (o : Oper) (x y : Operand) (w : World) (a b : Int) (h1 : ρ x = .int .i64 a) (h2 : ρ y = .int .i64 b) : (execOp ρ { o with op := .binOp .gtr 3 x y 3 }).run Tryz.prog w = .ok (.value (.bool (decide (b < a)))) w := by
  by_cases h : b < a
  · rw [decide_eq_true h]
    unfold execOp
    go_simp
  · rw [decide_eq_false h]
    have h' : a ≤ b := by omega
    clear h
    unfold execOp
    go_simp
end Go.Proofs.YteamecapeghnoaaGreatDoor

/-
  rat.Add, Sub, Floor, Near; the document's Valid; what the laws ask of rationals.
-/
namespace Go.Proofs.YteamecapeghnoaaGreatDoor
open Go Go.RowKit Nt
set_option linter.unusedSimpArgs false
set_option linter.unusedVariables false
set_option maxRecDepth 20000

set_option maxHeartbeats 400000 in
theorem ratadd_w (w : World) (A N : Int) (D M k1 k2 k3 k4 : Nat) (u v : Value) (h : Rv A (D : Int) k1 k2 u w) (h' : Rv N (M : Int) k3 k4 v w) (hk1 : k1 ≤ 8388608) (hk2 : k2 ≤ 8388608) (hk3 : k3 ≤ 8388608) (hk4 : k4 ≤ 8388608) (hD : D ≠ 0) (hM : M ≠ 0) :
    Calls Tryz.prog 5 #[u, v] w (Gives (TWO (RN (nR (adN A N D M) (D * M)) (dR (adN A N D M) (D * M))) (IS (.int .i64 0))) w) := by
  refine calls_sta (sl := [(0, (PR (Zv A k1) (Zv ((D : Int)) k2))), (1, (PR (Zv N k3) (Zv ((M : Int)) k4)))]) Tryz.func5 rfl Tryz.ntmps5 (by simp) (args_cons rfl (rv_has h) (args_cons rfl (rv_has h') args_nil)) ?_
  intro a0 S0
  refine wp_stmt_seq [.new (.box 26 (PR (Zv A k1) (Zv ((D : Int)) k2))),
      .new (.box 26 (PR (Zv N k3) (Zv ((M : Int)) k4))),
      .new (.box 26 (Is (.agg #[.bool false, .slice none 0 0, .bool false, .slice none 0 0]))),
      .val (Is (.int .i64 0))] [.inl 0, .inl 1, .inl 2] [.inl 3] follows S0 rfl (by kernel_rfl) ?_ ?_
  · refine ⟨⟨⟨⟨trivial, ?_⟩, ?_⟩, ?_⟩, ?_⟩
    · exact owe_box rfl (wants_all rfl) rfl (opnd_slot 0 0 rfl (by kernel_rfl)) rfl (fun ρ w h => box_rat (shp_pr shp_zv shp_zv) ρ _ _ w h)
    · exact owe_box rfl (wants_all rfl) rfl (opnd_slot 1 1 rfl (by kernel_rfl)) rfl (fun ρ w h => box_rat (shp_pr shp_zv shp_zv) ρ _ _ w h)
    · exact owe_new rfl (wants_all rfl) rfl rfl (fun ρ w => alloc_rat ρ _ w)
    · exact owe_move rfl (wants_all rfl) (Or.inr rfl) (opnd_const _) rfl
  intro B1 a1 W1 S1
  replace S1 : Sta w 12 [(2, (.box 26 (PR (Zv A k1) (Zv ((D : Int)) k2)))), (3, (.box 26 (PR (Zv N k3) (Zv ((M : Int)) k4)))), (4, (.box 26 (Is (.agg #[.bool false, .slice none 0 0, .bool false, .slice none 0 0]))))] [(5, (Is (.int .i64 0)))] B1 a1 W1 := S1
  refine wp_stmt_seq [.val (PR (Zv A k1) (Zv ((D : Int)) k2)),
      .val (PR (Zv N k3) (Zv ((M : Int)) k4)),
      .val (RL2 (PR (Zv A k1) (Zv ((D : Int)) k2)) (PR (Zv N k3) (Zv ((M : Int)) k4)) w.heap.size),
      .val ((TWO (RN (nR (adN A N D M) (D * M)) (dR (adN A N D M) (D * M))) (IS (.int .i64 0))) w.heap.size),
      .val ((RN (nR (adN A N D M) (D * M)) (dR (adN A N D M) (D * M))) w.heap.size),
      .val (Is (.int .i64 0)),
      .put (.inl 4) (.box 26 ((RN (nR (adN A N D M) (D * M)) (dR (adN A N D M) (D * M))) w.heap.size)),
      .val (Is (.int .i64 0))] [.inr 0, .inr 1, .inr 2] [.inl 7] follows S1 rfl (by kernel_rfl) ?_ ?_
  · refine ⟨⟨⟨⟨⟨⟨⟨⟨trivial, ?_⟩, ?_⟩, ?_⟩, ?_⟩, ?_⟩, ?_⟩, ?_⟩, ?_⟩
    · exact owe_load rfl (wants_all rfl) rfl (k := 0) rfl (by kernel_rfl) (loads_of strct_rat (shp_pr shp_zv shp_zv)) rfl
    · exact owe_load rfl (wants_all rfl) rfl (k := 1) rfl (by kernel_rfl) (loads_of strct_rat (shp_pr shp_zv shp_zv)) rfl
    · exact owe_rl2 rfl (wants_all rfl) rfl (opnd_op 0 6 (by kernel_rfl) rfl) (opnd_op 1 7 (by kernel_rfl) rfl) (shp_pr shp_zv shp_zv) (shp_pr shp_zv shp_zv) rfl
    · exact owe_call1 rfl (wants_all rfl) rfl (opnd_op 2 8 (by kernel_rfl) rfl) (fresh_two (fresh_rn _ _) (fresh_is _)) rfl (fun args w => by go_simp) (fun w u h1 => g_sum hD hM (by omega) (by omega) (by omega) (by omega) w u (rl2_imp (pr_imp (fun _ _ h => h) (fun _ _ h => h)) (pr_imp (fun _ _ h => h) (fun _ _ h => h)) _ _ h1))
    · exact owe_ext2 rfl (wants_all rfl) rfl (opnd_op 3 9 (by kernel_rfl) rfl) (Or.inl ⟨rfl, rfl⟩) rfl
    · exact owe_ext2 rfl (wants_all rfl) rfl (opnd_op 3 9 (by kernel_rfl) rfl) (Or.inr ⟨rfl, rfl⟩) rfl
    · exact owe_set rfl (wants_all rfl) rfl (k := 2) rfl (by kernel_rfl) (opnd_op 4 10 (by kernel_rfl) rfl) (stores_of strct_rat shp_r0 (shp_pr shp_zn shp_zn)) rfl
    · exact owe_move rfl (wants_all rfl) (Or.inr rfl) (opnd_op 5 11 (by kernel_rfl) rfl) rfl
  intro B2 a2 W2 S2
  replace S2 : Sta w 12 [(2, (.box 26 (PR (Zv A k1) (Zv ((D : Int)) k2)))), (3, (.box 26 (PR (Zv N k3) (Zv ((M : Int)) k4)))), (4, (.box 26 ((RN (nR (adN A N D M) (D * M)) (dR (adN A N D M) (D * M))) w.heap.size)))] [(5, (Is (.int .i64 0)))] B2 a2 W2 := S2
  refine wp_ret ?_
  exact end_two S2 rfl (res_cell S2 2 4 rfl strct_rat (shp_pr shp_zn shp_zn)) (res_tmp S2 0 5 rfl)

set_option maxHeartbeats 400000 in
theorem ratadd_b (w : World) (A N D M : Int) (k1 k2 k3 k4 : Nat) (u v : Value) (h : Rv A D k1 k2 u w) (h' : Rv N M k3 k4 v w) (hk1 : k1 ≤ 8388608) (hk2 : k2 ≤ 8388608) (hk3 : k3 ≤ 8388608) (hk4 : k4 ≤ 8388608) (hmay : (decide (0 < D.sign) && decide (0 < M.sign)) = false) :
    Calls Tryz.prog 5 #[u, v] w (Gives (TWO (IS (.agg #[.bool false, .slice none 0 0, .bool false, .slice none 0 0])) (IS (.int .i64 30))) w) := by
  refine calls_sta (sl := [(0, (PR (Zv A k1) (Zv D k2))), (1, (PR (Zv N k3) (Zv M k4)))]) Tryz.func5 rfl Tryz.ntmps5 (by simp) (args_cons rfl (rv_has h) (args_cons rfl (rv_has h') args_nil)) ?_
  intro a0 S0
  refine wp_stmt_seq [.new (.box 26 (PR (Zv A k1) (Zv D k2))),
      .new (.box 26 (PR (Zv N k3) (Zv M k4))),
      .new (.box 26 (Is (.agg #[.bool false, .slice none 0 0, .bool false, .slice none 0 0]))),
      .val (Is (.int .i64 0))] [.inl 0, .inl 1, .inl 2] [.inl 3] follows S0 rfl (by kernel_rfl) ?_ ?_
  · refine ⟨⟨⟨⟨trivial, ?_⟩, ?_⟩, ?_⟩, ?_⟩
    · exact owe_box rfl (wants_all rfl) rfl (opnd_slot 0 0 rfl (by kernel_rfl)) rfl (fun ρ w h => box_rat (shp_pr shp_zv shp_zv) ρ _ _ w h)
    · exact owe_box rfl (wants_all rfl) rfl (opnd_slot 1 1 rfl (by kernel_rfl)) rfl (fun ρ w h => box_rat (shp_pr shp_zv shp_zv) ρ _ _ w h)
    · exact owe_new rfl (wants_all rfl) rfl rfl (fun ρ w => alloc_rat ρ _ w)
    · exact owe_move rfl (wants_all rfl) (Or.inr rfl) (opnd_const _) rfl
  intro B1 a1 W1 S1
  replace S1 : Sta w 12 [(2, (.box 26 (PR (Zv A k1) (Zv D k2)))), (3, (.box 26 (PR (Zv N k3) (Zv M k4)))), (4, (.box 26 (Is (.agg #[.bool false, .slice none 0 0, .bool false, .slice none 0 0]))))] [(5, (Is (.int .i64 0)))] B1 a1 W1 := S1
  refine wp_stmt_seq [.val (PR (Zv A k1) (Zv D k2)),
      .val (PR (Zv N k3) (Zv M k4)),
      .val (RL2 (PR (Zv A k1) (Zv D k2)) (PR (Zv N k3) (Zv M k4)) w.heap.size),
      .val ((TWO (IS (.agg #[.bool false, .slice none 0 0, .bool false, .slice none 0 0])) (IS (.int .i64 30))) w.heap.size),
      .val (Is (.agg #[.bool false, .slice none 0 0, .bool false, .slice none 0 0])),
      .val (Is (.int .i64 30)),
      .put (.inl 4) (.box 26 (Is (.agg #[.bool false, .slice none 0 0, .bool false, .slice none 0 0]))),
      .val (Is (.int .i64 30))] [.inr 0, .inr 1, .inr 2] [.inl 7] follows S1 rfl (by kernel_rfl) ?_ ?_
  · refine ⟨⟨⟨⟨⟨⟨⟨⟨trivial, ?_⟩, ?_⟩, ?_⟩, ?_⟩, ?_⟩, ?_⟩, ?_⟩, ?_⟩
    · exact owe_load rfl (wants_all rfl) rfl (k := 0) rfl (by kernel_rfl) (loads_of strct_rat (shp_pr shp_zv shp_zv)) rfl
    · exact owe_load rfl (wants_all rfl) rfl (k := 1) rfl (by kernel_rfl) (loads_of strct_rat (shp_pr shp_zv shp_zv)) rfl
    · exact owe_rl2 rfl (wants_all rfl) rfl (opnd_op 0 6 (by kernel_rfl) rfl) (opnd_op 1 7 (by kernel_rfl) rfl) (shp_pr shp_zv shp_zv) (shp_pr shp_zv shp_zv) rfl
    · exact owe_call1 rfl (wants_all rfl) rfl (opnd_op 2 8 (by kernel_rfl) rfl) (fresh_two (fresh_is _) (fresh_is _)) rfl (fun args w => by go_simp) (fun w u h1 => g_sum_bad hmay (by omega) (by omega) (by omega) (by omega) w u (rl2_imp (pr_imp (fun _ _ h => h) (fun _ _ h => h)) (pr_imp (fun _ _ h => h) (fun _ _ h => h)) _ _ h1))
    · exact owe_ext2 rfl (wants_all rfl) rfl (opnd_op 3 9 (by kernel_rfl) rfl) (Or.inl ⟨rfl, rfl⟩) rfl
    · exact owe_ext2 rfl (wants_all rfl) rfl (opnd_op 3 9 (by kernel_rfl) rfl) (Or.inr ⟨rfl, rfl⟩) rfl
    · exact owe_set rfl (wants_all rfl) rfl (k := 2) rfl (by kernel_rfl) (opnd_op 4 10 (by kernel_rfl) rfl) (stores_of strct_rat shp_r0 shp_r0) rfl
    · exact owe_move rfl (wants_all rfl) (Or.inr rfl) (opnd_op 5 11 (by kernel_rfl) rfl) rfl
  intro B2 a2 W2 S2
  replace S2 : Sta w 12 [(2, (.box 26 (PR (Zv A k1) (Zv D k2)))), (3, (.box 26 (PR (Zv N k3) (Zv M k4)))), (4, (.box 26 (Is (.agg #[.bool false, .slice none 0 0, .bool false, .slice none 0 0]))))] [(5, (Is (.int .i64 30)))] B2 a2 W2 := S2
  refine wp_ret ?_
  exact end_two S2 rfl (res_cell S2 2 4 rfl strct_rat shp_r0) (res_tmp S2 0 5 rfl)

set_option maxHeartbeats 400000 in
theorem ratsub_w (w : World) (A N : Int) (D M k1 k2 k3 k4 : Nat) (u v : Value) (h : Rv A (D : Int) k1 k2 u w) (h' : Rv N (M : Int) k3 k4 v w) (hk1 : k1 ≤ 8388608) (hk2 : k2 ≤ 8388608) (hk3 : k3 ≤ 8388608) (hk4 : k4 ≤ 8388608) (hD : D ≠ 0) (hM : M ≠ 0) :
    Calls Tryz.prog 6 #[u, v] w (Gives (TWO (RN (nR (adN A (-N) D M) (D * M)) (dR (adN A (-N) D M) (D * M))) (IS (.int .i64 0))) w) := by
  have dN : (digs (-N).natAbs).length ≤ k3 := by rw [Int.natAbs_neg]; obtain ⟨_, _, _, _, _, hn, _⟩ := h'; exact zvn_len hn
  refine calls_sta (sl := [(0, (PR (Zv A k1) (Zv ((D : Int)) k2))), (1, (PR (Zv N k3) (Zv ((M : Int)) k4)))]) Tryz.func6 rfl Tryz.ntmps6 (by simp) (args_cons rfl (rv_has h) (args_cons rfl (rv_has h') args_nil)) ?_
  intro a0 S0
  refine wp_stmt_seq [.new (.box 26 (PR (Zv A k1) (Zv ((D : Int)) k2))),
      .new (.box 26 (PR (Zv N k3) (Zv ((M : Int)) k4))),
      .new (.box 26 (Is (.agg #[.bool false, .slice none 0 0, .bool false, .slice none 0 0]))),
      .val (Is (.int .i64 0))] [.inl 0, .inl 1, .inl 2] [.inl 3] follows S0 rfl (by kernel_rfl) ?_ ?_
  · refine ⟨⟨⟨⟨trivial, ?_⟩, ?_⟩, ?_⟩, ?_⟩
    · exact owe_box rfl (wants_all rfl) rfl (opnd_slot 0 0 rfl (by kernel_rfl)) rfl (fun ρ w h => box_rat (shp_pr shp_zv shp_zv) ρ _ _ w h)
    · exact owe_box rfl (wants_all rfl) rfl (opnd_slot 1 1 rfl (by kernel_rfl)) rfl (fun ρ w h => box_rat (shp_pr shp_zv shp_zv) ρ _ _ w h)
    · exact owe_new rfl (wants_all rfl) rfl rfl (fun ρ w => alloc_rat ρ _ w)
    · exact owe_move rfl (wants_all rfl) (Or.inr rfl) (opnd_const _) rfl
  intro B1 a1 W1 S1
  replace S1 : Sta w 13 [(2, (.box 26 (PR (Zv A k1) (Zv ((D : Int)) k2)))), (3, (.box 26 (PR (Zv N k3) (Zv ((M : Int)) k4)))), (4, (.box 26 (Is (.agg #[.bool false, .slice none 0 0, .bool false, .slice none 0 0]))))] [(5, (Is (.int .i64 0)))] B1 a1 W1 := S1
  refine wp_stmt_seq [.val (PR (Zv A k1) (Zv ((D : Int)) k2)),
      .val (PR (Zv N k3) (Zv ((M : Int)) k4)),
      .val (PR ((ZN (-N)) w.heap.size) (Zv ((M : Int)) k4)),
      .val (RL2 (PR (Zv A k1) (Zv ((D : Int)) k2)) (PR ((ZN (-N)) w.heap.size) (Zv ((M : Int)) k4)) w.heap.size),
      .val ((TWO (RN (nR (adN A (-N) D M) (D * M)) (dR (adN A (-N) D M) (D * M))) (IS (.int .i64 0))) w.heap.size),
      .val ((RN (nR (adN A (-N) D M) (D * M)) (dR (adN A (-N) D M) (D * M))) w.heap.size),
      .val (Is (.int .i64 0)),
      .put (.inl 4) (.box 26 ((RN (nR (adN A (-N) D M) (D * M)) (dR (adN A (-N) D M) (D * M))) w.heap.size)),
      .val (Is (.int .i64 0))] [.inr 0, .inr 1, .inr 2] [.inl 8] follows S1 rfl (by kernel_rfl) ?_ ?_
  · refine ⟨⟨⟨⟨⟨⟨⟨⟨⟨trivial, ?_⟩, ?_⟩, ?_⟩, ?_⟩, ?_⟩, ?_⟩, ?_⟩, ?_⟩, ?_⟩
    · exact owe_load rfl (wants_all rfl) rfl (k := 0) rfl (by kernel_rfl) (loads_of strct_rat (shp_pr shp_zv shp_zv)) rfl
    · exact owe_load rfl (wants_all rfl) rfl (k := 1) rfl (by kernel_rfl) (loads_of strct_rat (shp_pr shp_zv shp_zv)) rfl
    · exact owe_callPR rfl (wants_all rfl) rfl (opnd_op 1 7 (by kernel_rfl) rfl) shp_zv (fresh_zn _) rfl (fun args w => by go_simp) (g_minus (by omega))
    · exact owe_rl2 rfl (wants_all rfl) rfl (opnd_op 0 6 (by kernel_rfl) rfl) (opnd_op 2 8 (by kernel_rfl) rfl) (shp_pr shp_zv shp_zv) (shp_pr shp_zn shp_zv) rfl
    · exact owe_call1 rfl (wants_all rfl) rfl (opnd_op 3 9 (by kernel_rfl) rfl) (fresh_two (fresh_rn _ _) (fresh_is _)) rfl (fun args w => by go_simp) (fun w u h1 => g_sum hD hM (by omega) (by omega) (by omega) (by omega) w u (rl2_imp (pr_imp (fun _ _ h => h) (fun _ _ h => h)) (pr_imp (zn_zv dN) (fun _ _ h => h)) _ _ h1))
    · exact owe_ext2 rfl (wants_all rfl) rfl (opnd_op 4 10 (by kernel_rfl) rfl) (Or.inl ⟨rfl, rfl⟩) rfl
    · exact owe_ext2 rfl (wants_all rfl) rfl (opnd_op 4 10 (by kernel_rfl) rfl) (Or.inr ⟨rfl, rfl⟩) rfl
    · exact owe_set rfl (wants_all rfl) rfl (k := 2) rfl (by kernel_rfl) (opnd_op 5 11 (by kernel_rfl) rfl) (stores_of strct_rat shp_r0 (shp_pr shp_zn shp_zn)) rfl
    · exact owe_move rfl (wants_all rfl) (Or.inr rfl) (opnd_op 6 12 (by kernel_rfl) rfl) rfl
  intro B2 a2 W2 S2
  replace S2 : Sta w 13 [(2, (.box 26 (PR (Zv A k1) (Zv ((D : Int)) k2)))), (3, (.box 26 (PR (Zv N k3) (Zv ((M : Int)) k4)))), (4, (.box 26 ((RN (nR (adN A (-N) D M) (D * M)) (dR (adN A (-N) D M) (D * M))) w.heap.size)))] [(5, (Is (.int .i64 0)))] B2 a2 W2 := S2
  refine wp_ret ?_
  exact end_two S2 rfl (res_cell S2 2 4 rfl strct_rat (shp_pr shp_zn shp_zn)) (res_tmp S2 0 5 rfl)

set_option maxHeartbeats 400000 in
theorem ratsub_b (w : World) (A N D M : Int) (k1 k2 k3 k4 : Nat) (u v : Value) (h : Rv A D k1 k2 u w) (h' : Rv N M k3 k4 v w) (hk1 : k1 ≤ 8388608) (hk2 : k2 ≤ 8388608) (hk3 : k3 ≤ 8388608) (hk4 : k4 ≤ 8388608) (hmay : (decide (0 < D.sign) && decide (0 < M.sign)) = false) :
    Calls Tryz.prog 6 #[u, v] w (Gives (TWO (IS (.agg #[.bool false, .slice none 0 0, .bool false, .slice none 0 0])) (IS (.int .i64 30))) w) := by
  have dN : (digs (-N).natAbs).length ≤ k3 := by rw [Int.natAbs_neg]; obtain ⟨_, _, _, _, _, hn, _⟩ := h'; exact zvn_len hn
  refine calls_sta (sl := [(0, (PR (Zv A k1) (Zv D k2))), (1, (PR (Zv N k3) (Zv M k4)))]) Tryz.func6 rfl Tryz.ntmps6 (by simp) (args_cons rfl (rv_has h) (args_cons rfl (rv_has h') args_nil)) ?_
  intro a0 S0
  refine wp_stmt_seq [.new (.box 26 (PR (Zv A k1) (Zv D k2))),
      .new (.box 26 (PR (Zv N k3) (Zv M k4))),
      .new (.box 26 (Is (.agg #[.bool false, .slice none 0 0, .bool false, .slice none 0 0]))),
      .val (Is (.int .i64 0))] [.inl 0, .inl 1, .inl 2] [.inl 3] follows S0 rfl (by kernel_rfl) ?_ ?_
  · refine ⟨⟨⟨⟨trivial, ?_⟩, ?_⟩, ?_⟩, ?_⟩
    · exact owe_box rfl (wants_all rfl) rfl (opnd_slot 0 0 rfl (by kernel_rfl)) rfl (fun ρ w h => box_rat (shp_pr shp_zv shp_zv) ρ _ _ w h)
    · exact owe_box rfl (wants_all rfl) rfl (opnd_slot 1 1 rfl (by kernel_rfl)) rfl (fun ρ w h => box_rat (shp_pr shp_zv shp_zv) ρ _ _ w h)
    · exact owe_new rfl (wants_all rfl) rfl rfl (fun ρ w => alloc_rat ρ _ w)
    · exact owe_move rfl (wants_all rfl) (Or.inr rfl) (opnd_const _) rfl
  intro B1 a1 W1 S1
  replace S1 : Sta w 13 [(2, (.box 26 (PR (Zv A k1) (Zv D k2)))), (3, (.box 26 (PR (Zv N k3) (Zv M k4)))), (4, (.box 26 (Is (.agg #[.bool false, .slice none 0 0, .bool false, .slice none 0 0]))))] [(5, (Is (.int .i64 0)))] B1 a1 W1 := S1
  refine wp_stmt_seq [.val (PR (Zv A k1) (Zv D k2)),
      .val (PR (Zv N k3) (Zv M k4)),
      .val (PR ((ZN (-N)) w.heap.size) (Zv M k4)),
      .val (RL2 (PR (Zv A k1) (Zv D k2)) (PR ((ZN (-N)) w.heap.size) (Zv M k4)) w.heap.size),
      .val ((TWO (IS (.agg #[.bool false, .slice none 0 0, .bool false, .slice none 0 0])) (IS (.int .i64 30))) w.heap.size),
      .val (Is (.agg #[.bool false, .slice none 0 0, .bool false, .slice none 0 0])),
      .val (Is (.int .i64 30)),
      .put (.inl 4) (.box 26 (Is (.agg #[.bool false, .slice none 0 0, .bool false, .slice none 0 0]))),
      .val (Is (.int .i64 30))] [.inr 0, .inr 1, .inr 2] [.inl 8] follows S1 rfl (by kernel_rfl) ?_ ?_
  · refine ⟨⟨⟨⟨⟨⟨⟨⟨⟨trivial, ?_⟩, ?_⟩, ?_⟩, ?_⟩, ?_⟩, ?_⟩, ?_⟩, ?_⟩, ?_⟩
    · exact owe_load rfl (wants_all rfl) rfl (k := 0) rfl (by kernel_rfl) (loads_of strct_rat (shp_pr shp_zv shp_zv)) rfl
    · exact owe_load rfl (wants_all rfl) rfl (k := 1) rfl (by kernel_rfl) (loads_of strct_rat (shp_pr shp_zv shp_zv)) rfl
    · exact owe_callPR rfl (wants_all rfl) rfl (opnd_op 1 7 (by kernel_rfl) rfl) shp_zv (fresh_zn _) rfl (fun args w => by go_simp) (g_minus (by omega))
    · exact owe_rl2 rfl (wants_all rfl) rfl (opnd_op 0 6 (by kernel_rfl) rfl) (opnd_op 2 8 (by kernel_rfl) rfl) (shp_pr shp_zv shp_zv) (shp_pr shp_zn shp_zv) rfl
    · exact owe_call1 rfl (wants_all rfl) rfl (opnd_op 3 9 (by kernel_rfl) rfl) (fresh_two (fresh_is _) (fresh_is _)) rfl (fun args w => by go_simp) (fun w u h1 => g_sum_bad hmay (by omega) (by omega) (by omega) (by omega) w u (rl2_imp (pr_imp (fun _ _ h => h) (fun _ _ h => h)) (pr_imp (zn_zv dN) (fun _ _ h => h)) _ _ h1))
    · exact owe_ext2 rfl (wants_all rfl) rfl (opnd_op 4 10 (by kernel_rfl) rfl) (Or.inl ⟨rfl, rfl⟩) rfl
    · exact owe_ext2 rfl (wants_all rfl) rfl (opnd_op 4 10 (by kernel_rfl) rfl) (Or.inr ⟨rfl, rfl⟩) rfl
    · exact owe_set rfl (wants_all rfl) rfl (k := 2) rfl (by kernel_rfl) (opnd_op 5 11 (by kernel_rfl) rfl) (stores_of strct_rat shp_r0 shp_r0) rfl
    · exact owe_move rfl (wants_all rfl) (Or.inr rfl) (opnd_op 6 12 (by kernel_rfl) rfl) rfl
  intro B2 a2 W2 S2
  replace S2 : Sta w 13 [(2, (.box 26 (PR (Zv A k1) (Zv D k2)))), (3, (.box 26 (PR (Zv N k3) (Zv M k4)))), (4, (.box 26 (Is (.agg #[.bool false, .slice none 0 0, .bool false, .slice none 0 0]))))] [(5, (Is (.int .i64 30)))] B2 a2 W2 := S2
  refine wp_ret ?_
  exact end_two S2 rfl (res_cell S2 2 4 rfl strct_rat shp_r0) (res_tmp S2 0 5 rfl)

theorem g_ratadd {A N : Int} {D M k1 k2 k3 k4 : Nat} (hD : D ≠ 0) (hM : M ≠ 0)  (hk1 : k1 ≤ 8388608) (hk2 : k2 ≤ 8388608) (hk3 : k3 ≤ 8388608) (hk4 : k4 ≤ 8388608) : ∀ w u v, Rv A (D : Int) k1 k2 u w → Rv N (M : Int) k3 k4 v w → Calls Tryz.prog 5 #[u, v] w (Gives (TWO (RN (nR (adN A N D M) (D * M)) (dR (adN A N D M) (D * M))) (IS (.int .i64 0))) w) := fun w u v h h' => ratadd_w w A N D M k1 k2 k3 k4 u v h h' hk1 hk2 hk3 hk4 hD hM

theorem g_ratsub {A N : Int} {D M k1 k2 k3 k4 : Nat} (hD : D ≠ 0) (hM : M ≠ 0)  (hk1 : k1 ≤ 8388608) (hk2 : k2 ≤ 8388608) (hk3 : k3 ≤ 8388608) (hk4 : k4 ≤ 8388608) : ∀ w u v, Rv A (D : Int) k1 k2 u w → Rv N (M : Int) k3 k4 v w → Calls Tryz.prog 6 #[u, v] w (Gives (TWO (RN (nR (adN A (-N) D M) (D * M)) (dR (adN A (-N) D M) (D * M))) (IS (.int .i64 0))) w) := fun w u v h h' => ratsub_w w A N D M k1 k2 k3 k4 u v h h' hk1 hk2 hk3 hk4 hD hM

theorem g_ratadd_b {A N D M : Int} {k1 k2 k3 k4 : Nat} (hmay : (decide (0 < D.sign) && decide (0 < M.sign)) = false) (hk1 : k1 ≤ 8388608) (hk2 : k2 ≤ 8388608) (hk3 : k3 ≤ 8388608) (hk4 : k4 ≤ 8388608) : ∀ w u v, Rv A D k1 k2 u w → Rv N M k3 k4 v w → Calls Tryz.prog 5 #[u, v] w (Gives (TWO (IS (.agg #[.bool false, .slice none 0 0, .bool false, .slice none 0 0])) (IS (.int .i64 30))) w) := fun w u v h h' => ratadd_b w A N D M k1 k2 k3 k4 u v h h' hk1 hk2 hk3 hk4 hmay

theorem g_ratsub_b {A N D M : Int} {k1 k2 k3 k4 : Nat} (hmay : (decide (0 < D.sign) && decide (0 < M.sign)) = false) (hk1 : k1 ≤ 8388608) (hk2 : k2 ≤ 8388608) (hk3 : k3 ≤ 8388608) (hk4 : k4 ≤ 8388608) : ∀ w u v, Rv A D k1 k2 u w → Rv N M k3 k4 v w → Calls Tryz.prog 6 #[u, v] w (Gives (TWO (IS (.agg #[.bool false, .slice none 0 0, .bool false, .slice none 0 0])) (IS (.int .i64 30))) w) := fun w u v h h' => ratsub_b w A N D M k1 k2 k3 k4 u v h h' hk1 hk2 hk3 hk4 hmay

set_option maxHeartbeats 400000 in
theorem ratfloor_w (w : World) (A : Int) (D k1 k2 : Nat) (u : Value) (h : Rv A (D : Int) k1 k2 u w) (hk1 : k1 ≤ 8388608) (hk2 : k2 ≤ 8388608) (hB : (D : Int) ≠ 0) (hmt : decide (0 < (D : Int).sign) = true) :
    Calls Tryz.prog 12 #[u] w (Gives (TWO (ZN (fl A (D : Int))) (IS (.int .i64 0))) w) := by
  refine calls_sta (sl := [(0, (PR (Zv A k1) (Zv ((D : Int)) k2)))]) Tryz.func12 rfl Tryz.ntmps12 (by simp) (args_cons rfl (rv_has h) args_nil) ?_
  intro a0 S0
  refine wp_stmt_seq [.new (.box 26 (PR (Zv A k1) (Zv ((D : Int)) k2))),
      .new (.box 24 (Is (.agg #[.bool false, .slice none 0 0]))),
      .val (Is (.int .i64 0))] [.inl 0, .inl 1] [.inl 2] follows S0 rfl (by kernel_rfl) ?_ ?_
  · refine ⟨⟨⟨trivial, ?_⟩, ?_⟩, ?_⟩
    · exact owe_box rfl (wants_all rfl) rfl (opnd_slot 0 0 rfl (by kernel_rfl)) rfl (fun ρ w h => box_rat (shp_pr shp_zv shp_zv) ρ _ _ w h)
    · exact owe_new rfl (wants_all rfl) rfl rfl (fun ρ w => alloc_int ρ _ w)
    · exact owe_move rfl (wants_all rfl) (Or.inr rfl) (opnd_const _) rfl
  intro B1 a1 W1 S1
  replace S1 : Sta w 23 [(1, (.box 26 (PR (Zv A k1) (Zv ((D : Int)) k2)))), (2, (.box 24 (Is (.agg #[.bool false, .slice none 0 0]))))] [(3, (Is (.int .i64 0)))] B1 a1 W1 := S1
  refine wp_seq ?_
  refine wp_stmt_seq [.val (PR (Zv A k1) (Zv ((D : Int)) k2)),
      .val (RL1 (PR (Zv A k1) (Zv ((D : Int)) k2)) w.heap.size),
      .val (Is (.bool true)),
      .val (Is (.bool false))] [.inr 0, .inr 1] [.inl 3, .inr 0] follows S1 rfl (by kernel_rfl) ?_ ?_
  · refine ⟨⟨⟨⟨trivial, ?_⟩, ?_⟩, ?_⟩, ?_⟩
    · exact owe_load rfl (wants_all rfl) rfl (k := 0) rfl (by kernel_rfl) (loads_of strct_rat (shp_pr shp_zv shp_zv)) rfl
    · exact owe_rl1 rfl (wants_all rfl) rfl (opnd_op 0 7 (by kernel_rfl) rfl) (shp_pr shp_zv shp_zv) rfl
    · exact owe_call1 rfl (wants_all rfl) rfl (opnd_op 1 8 (by kernel_rfl) rfl) (fresh_is _) rfl (fun args w => by go_simp) (fun w u h1 => Gives.cast (g_maybe1 (by omega) w u (rl1_imp (pr_imp (fun _ _ h => h) (fun _ _ h => h)) _ _ h1)) (by rw [hmt]))
    · exact owe_un (x := .tmp 9) rfl (wants_all rfl) rfl (opnd_op 2 9 (by kernel_rfl) rfl) rfl (fun ρ w h1 => run_not ρ _ _ w _ h1)
  intro B2 a2 W2 S2
  replace S2 : Sta w 23 [(1, (.box 26 (PR (Zv A k1) (Zv ((D : Int)) k2)))), (2, (.box 24 (Is (.agg #[.bool false, .slice none 0 0]))))] [(10, (Is (.bool false))), (3, (Is (.int .i64 0)))] B2 a2 W2 := S2
  refine wp_cond_false (S2.bool 0 10 rfl) ?_
  refine wp_skip ?_
  refine thenN ?_
  refine wp_stmt_seq [.val (Part a2 1 0),
      .val (Zv A k1),
      .val (Part a2 1 2),
      .val (Zv ((D : Int)) k2),
      .val ((THREE (ZN (fl A ((D : Int)))) (ZN (rm A ((D : Int)))) (IS (.int .i64 0))) w.heap.size),
      .val ((THREE (ZN (fl A ((D : Int)))) (ZN (rm A ((D : Int)))) (IS (.int .i64 0))) w.heap.size),
      .val ((ZN (fl A ((D : Int)))) w.heap.size),
      .val ((ZN (rm A ((D : Int)))) w.heap.size),
      .val (Is (.int .i64 0)),
      .new (.box 24 (Is (.agg #[.bool false, .slice none 0 0]))),
      .new (.box 24 (Is (.agg #[.bool false, .slice none 0 0]))),
      .put (.inr 9) (.box 24 ((ZN (fl A ((D : Int)))) w.heap.size)),
      .put (.inr 10) (.box 24 ((ZN (rm A ((D : Int)))) w.heap.size)),
      .val (Is (.int .i64 0))] [.inr 0, .inr 1, .inl 9, .inl 10] [.inl 13, .inr 0, .inr 1] follows S2 rfl (by kernel_rfl) ?_ ?_
  · refine ⟨⟨⟨⟨⟨⟨⟨⟨⟨⟨⟨⟨⟨⟨trivial, ?_⟩, ?_⟩, ?_⟩, ?_⟩, ?_⟩, ?_⟩, ?_⟩, ?_⟩, ?_⟩, ?_⟩, ?_⟩, ?_⟩, ?_⟩, ?_⟩
    · exact owe_part rfl (wants_all rfl) rfl (k := 0) rfl (by kernel_rfl) rfl (fun ρ w b h => part_rat0 ρ _ _ w b 0 h)
    · exact owe_pload rfl (wants_all rfl) rfl (opnd_op 0 13 (by kernel_rfl) rfl) (k := 0) rfl (by kernel_rfl) rfl (fun ρ w b u h1 h2 h3 => pload_num ρ _ _ w b u h1 h2 h3)
    · exact owe_part rfl (wants_all rfl) rfl (k := 0) rfl (by kernel_rfl) rfl (fun ρ w b h => part_rat1 ρ _ _ w b 0 h)
    · exact owe_pload rfl (wants_all rfl) rfl (opnd_op 2 15 (by kernel_rfl) rfl) (k := 0) rfl (by kernel_rfl) rfl (fun ρ w b u h1 h2 h3 => pload_den ρ _ _ w b u h1 h2 h3)
    · exact owe_call2 rfl (wants_all rfl) rfl (opnd_op 1 14 (by kernel_rfl) rfl) (opnd_op 3 16 (by kernel_rfl) rfl) (fresh_three (fresh_zn _) (fresh_zn _) (fresh_is _)) rfl (fun args w => by go_simp) (fun w u v h1 h2 => g_zfloor hB (by omega) (by omega) w u v ((fun _ _ h => h) _ _ h1) ((fun _ _ h => h) _ _ h2))
    · exact owe_move rfl (wants_all rfl) (Or.inl rfl) (opnd_op 4 17 (by kernel_rfl) rfl) rfl
    · exact owe_ext3 rfl (wants_all rfl) rfl (opnd_op 5 12 (by kernel_rfl) rfl) (Or.inl ⟨rfl, rfl⟩) rfl
    · exact owe_ext3 rfl (wants_all rfl) rfl (opnd_op 5 12 (by kernel_rfl) rfl) (Or.inr (Or.inl ⟨rfl, rfl⟩)) rfl
    · exact owe_ext3 rfl (wants_all rfl) rfl (opnd_op 5 12 (by kernel_rfl) rfl) (Or.inr (Or.inr ⟨rfl, rfl⟩)) rfl
    · exact owe_new rfl (wants_all rfl) rfl rfl (fun ρ w => alloc_int ρ _ w)
    · exact owe_new rfl (wants_all rfl) rfl rfl (fun ρ w => alloc_int ρ _ w)
    · exact owe_put 9 rfl (wants_all rfl) rfl (by kernel_rfl) rfl (opnd_op 6 18 (by kernel_rfl) rfl) (stores_of strct_int shp_z0 shp_zn) rfl
    · exact owe_put 10 rfl (wants_all rfl) rfl (by kernel_rfl) rfl (opnd_op 7 19 (by kernel_rfl) rfl) (stores_of strct_int shp_z0 shp_zn) rfl
    · exact owe_move rfl (wants_all rfl) (Or.inr rfl) (opnd_op 8 20 (by kernel_rfl) rfl) rfl
  intro B3 a3 W3 S3
  replace S3 : Sta w 23 [(1, (.box 26 (PR (Zv A k1) (Zv ((D : Int)) k2)))), (2, (.box 24 (Is (.agg #[.bool false, .slice none 0 0])))), (4, (.box 24 ((ZN (fl A ((D : Int)))) w.heap.size))), (5, (.box 24 ((ZN (rm A ((D : Int)))) w.heap.size)))] [(6, (Is (.int .i64 0))), (10, (Is (.bool false))), (3, (Is (.int .i64 0)))] B3 a3 W3 := S3
  refine wp_stmt_seq [.val ((ZN (fl A ((D : Int)))) w.heap.size),
      .val (Is (.int .i64 0)),
      .put (.inl 2) (.box 24 ((ZN (fl A ((D : Int)))) w.heap.size)),
      .val (Is (.int .i64 0))] [.inr 0, .inr 1, .inr 2, .inr 3] [.inl 3, .inr 1] follows S3 rfl (by kernel_rfl) ?_ ?_
  · refine ⟨⟨⟨⟨trivial, ?_⟩, ?_⟩, ?_⟩, ?_⟩
    · exact owe_load rfl (wants_all rfl) rfl (k := 2) rfl (by kernel_rfl) (loads_of strct_int shp_zn) rfl
    · exact owe_move rfl (wants_all rfl) (Or.inl rfl) (opnd_slot 0 6 rfl (by kernel_rfl)) rfl
    · exact owe_set rfl (wants_all rfl) rfl (k := 1) rfl (by kernel_rfl) (opnd_op 0 21 (by kernel_rfl) rfl) (stores_of strct_int shp_z0 shp_zn) rfl
    · exact owe_move rfl (wants_all rfl) (Or.inr rfl) (opnd_op 1 22 (by kernel_rfl) rfl) rfl
  intro B4 a4 W4 S4
  replace S4 : Sta w 23 [(1, (.box 26 (PR (Zv A k1) (Zv ((D : Int)) k2)))), (2, (.box 24 ((ZN (fl A ((D : Int)))) w.heap.size))), (4, (.box 24 ((ZN (fl A ((D : Int)))) w.heap.size))), (5, (.box 24 ((ZN (rm A ((D : Int)))) w.heap.size)))] [(3, (Is (.int .i64 0))), (10, (Is (.bool false)))] B4 a4 W4 := S4
  refine wp_ret ?_
  exact end_two S4 rfl (res_cell S4 1 2 rfl strct_int shp_zn) (res_tmp S4 0 3 rfl)

set_option maxHeartbeats 400000 in
theorem ratfloor_b (w : World) (A D : Int) (k1 k2 : Nat) (u : Value) (h : Rv A D k1 k2 u w) (hk1 : k1 ≤ 8388608) (hk2 : k2 ≤ 8388608) (hmf : decide (0 < D.sign) = false) :
    Calls Tryz.prog 12 #[u] w (Gives (TWO (IS (.agg #[.bool false, .slice none 0 0])) (IS (.int .i64 30))) w) := by
  refine calls_sta (sl := [(0, (PR (Zv A k1) (Zv D k2)))]) Tryz.func12 rfl Tryz.ntmps12 (by simp) (args_cons rfl (rv_has h) args_nil) ?_
  intro a0 S0
  refine wp_stmt_seq [.new (.box 26 (PR (Zv A k1) (Zv D k2))),
      .new (.box 24 (Is (.agg #[.bool false, .slice none 0 0]))),
      .val (Is (.int .i64 0))] [.inl 0, .inl 1] [.inl 2] follows S0 rfl (by kernel_rfl) ?_ ?_
  · refine ⟨⟨⟨trivial, ?_⟩, ?_⟩, ?_⟩
    · exact owe_box rfl (wants_all rfl) rfl (opnd_slot 0 0 rfl (by kernel_rfl)) rfl (fun ρ w h => box_rat (shp_pr shp_zv shp_zv) ρ _ _ w h)
    · exact owe_new rfl (wants_all rfl) rfl rfl (fun ρ w => alloc_int ρ _ w)
    · exact owe_move rfl (wants_all rfl) (Or.inr rfl) (opnd_const _) rfl
  intro B1 a1 W1 S1
  replace S1 : Sta w 23 [(1, (.box 26 (PR (Zv A k1) (Zv D k2)))), (2, (.box 24 (Is (.agg #[.bool false, .slice none 0 0]))))] [(3, (Is (.int .i64 0)))] B1 a1 W1 := S1
  refine wp_seq ?_
  refine wp_stmt_seq [.val (PR (Zv A k1) (Zv D k2)),
      .val (RL1 (PR (Zv A k1) (Zv D k2)) w.heap.size),
      .val (Is (.bool false)),
      .val (Is (.bool true))] [.inr 0, .inr 1] [.inl 3, .inr 0] follows S1 rfl (by kernel_rfl) ?_ ?_
  · refine ⟨⟨⟨⟨trivial, ?_⟩, ?_⟩, ?_⟩, ?_⟩
    · exact owe_load rfl (wants_all rfl) rfl (k := 0) rfl (by kernel_rfl) (loads_of strct_rat (shp_pr shp_zv shp_zv)) rfl
    · exact owe_rl1 rfl (wants_all rfl) rfl (opnd_op 0 7 (by kernel_rfl) rfl) (shp_pr shp_zv shp_zv) rfl
    · exact owe_call1 rfl (wants_all rfl) rfl (opnd_op 1 8 (by kernel_rfl) rfl) (fresh_is _) rfl (fun args w => by go_simp) (fun w u h1 => Gives.cast (g_maybe1 (by omega) w u (rl1_imp (pr_imp (fun _ _ h => h) (fun _ _ h => h)) _ _ h1)) (by rw [hmf]))
    · exact owe_un (x := .tmp 9) rfl (wants_all rfl) rfl (opnd_op 2 9 (by kernel_rfl) rfl) rfl (fun ρ w h1 => run_not ρ _ _ w _ h1)
  intro B2 a2 W2 S2
  replace S2 : Sta w 23 [(1, (.box 26 (PR (Zv A k1) (Zv D k2)))), (2, (.box 24 (Is (.agg #[.bool false, .slice none 0 0]))))] [(10, (Is (.bool true))), (3, (Is (.int .i64 0)))] B2 a2 W2 := S2
  refine wp_cond_true (S2.bool 0 10 rfl) ?_
  refine wp_stmt_seq [.val (Is (.agg #[.bool false, .slice none 0 0])),
      .put (.inl 2) (.box 24 (Is (.agg #[.bool false, .slice none 0 0]))),
      .val (Is (.int .i64 30))] [.inr 0, .inr 1] [.inl 2, .inr 0] follows S2 rfl (by kernel_rfl) ?_ ?_
  · refine ⟨⟨⟨trivial, ?_⟩, ?_⟩, ?_⟩
    · exact owe_build_int rfl (wants_all rfl) rfl rfl
    · exact owe_set rfl (wants_all rfl) rfl (k := 1) rfl (by kernel_rfl) (opnd_op 0 11 (by kernel_rfl) rfl) (stores_of strct_int shp_z0 shp_z0) rfl
    · exact owe_move rfl (wants_all rfl) (Or.inr rfl) (opnd_const _) rfl
  intro B3 a3 W3 S3
  replace S3 : Sta w 23 [(1, (.box 26 (PR (Zv A k1) (Zv D k2)))), (2, (.box 24 (Is (.agg #[.bool false, .slice none 0 0]))))] [(3, (Is (.int .i64 30))), (10, (Is (.bool true)))] B3 a3 W3 := S3
  refine wp_ret ?_
  refine thenR ?_
  exact end_two S3 rfl (res_cell S3 1 2 rfl strct_int shp_z0) (res_tmp S3 0 3 rfl)

theorem g_ratfloor {A : Int} {D k1 k2 : Nat} (hD : D ≠ 0) (hk1 : k1 ≤ 8388608) (hk2 : k2 ≤ 8388608) : ∀ w u, Rv A (D : Int) k1 k2 u w → Calls Tryz.prog 12 #[u] w (Gives (TWO (ZN (fl A (D : Int))) (IS (.int .i64 0))) w) := fun w u h => ratfloor_w w A D k1 k2 u h hk1 hk2 (by omega) (by rw [pos_sign hD]; rfl)

set_option maxHeartbeats 400000 in
theorem ratnear_w (w : World) (A : Int) (D k1 k2 : Nat) (u : Value) (h : Rv A (D : Int) k1 k2 u w) (hk1 : k1 ≤ 8388608) (hk2 : k2 ≤ 8388608) (hB : (D : Int) ≠ 0) (hmt : decide (0 < (D : Int).sign) = true) :
    Calls Tryz.prog 13 #[u] w (Gives (TWO (ZN (nr A (D : Int))) (IS (.int .i64 0))) w) := by
  refine calls_sta (sl := [(0, (PR (Zv A k1) (Zv ((D : Int)) k2)))]) Tryz.func13 rfl Tryz.ntmps13 (by simp) (args_cons rfl (rv_has h) args_nil) ?_
  intro a0 S0
  refine wp_stmt_seq [.new (.box 26 (PR (Zv A k1) (Zv ((D : Int)) k2))),
      .new (.box 24 (Is (.agg #[.bool false, .slice none 0 0]))),
      .val (Is (.int .i64 0))] [.inl 0, .inl 1] [.inl 2] follows S0 rfl (by kernel_rfl) ?_ ?_
  · refine ⟨⟨⟨trivial, ?_⟩, ?_⟩, ?_⟩
    · exact owe_box rfl (wants_all rfl) rfl (opnd_slot 0 0 rfl (by kernel_rfl)) rfl (fun ρ w h => box_rat (shp_pr shp_zv shp_zv) ρ _ _ w h)
    · exact owe_new rfl (wants_all rfl) rfl rfl (fun ρ w => alloc_int ρ _ w)
    · exact owe_move rfl (wants_all rfl) (Or.inr rfl) (opnd_const _) rfl
  intro B1 a1 W1 S1
  replace S1 : Sta w 16 [(1, (.box 26 (PR (Zv A k1) (Zv ((D : Int)) k2)))), (2, (.box 24 (Is (.agg #[.bool false, .slice none 0 0]))))] [(3, (Is (.int .i64 0)))] B1 a1 W1 := S1
  refine wp_seq ?_
  refine wp_stmt_seq [.val (PR (Zv A k1) (Zv ((D : Int)) k2)),
      .val (RL1 (PR (Zv A k1) (Zv ((D : Int)) k2)) w.heap.size),
      .val (Is (.bool true)),
      .val (Is (.bool false))] [.inr 0, .inr 1] [.inl 3, .inr 0] follows S1 rfl (by kernel_rfl) ?_ ?_
  · refine ⟨⟨⟨⟨trivial, ?_⟩, ?_⟩, ?_⟩, ?_⟩
    · exact owe_load rfl (wants_all rfl) rfl (k := 0) rfl (by kernel_rfl) (loads_of strct_rat (shp_pr shp_zv shp_zv)) rfl
    · exact owe_rl1 rfl (wants_all rfl) rfl (opnd_op 0 4 (by kernel_rfl) rfl) (shp_pr shp_zv shp_zv) rfl
    · exact owe_call1 rfl (wants_all rfl) rfl (opnd_op 1 5 (by kernel_rfl) rfl) (fresh_is _) rfl (fun args w => by go_simp) (fun w u h1 => Gives.cast (g_maybe1 (by omega) w u (rl1_imp (pr_imp (fun _ _ h => h) (fun _ _ h => h)) _ _ h1)) (by rw [hmt]))
    · exact owe_un (x := .tmp 6) rfl (wants_all rfl) rfl (opnd_op 2 6 (by kernel_rfl) rfl) rfl (fun ρ w h1 => run_not ρ _ _ w _ h1)
  intro B2 a2 W2 S2
  replace S2 : Sta w 16 [(1, (.box 26 (PR (Zv A k1) (Zv ((D : Int)) k2)))), (2, (.box 24 (Is (.agg #[.bool false, .slice none 0 0]))))] [(7, (Is (.bool false))), (3, (Is (.int .i64 0)))] B2 a2 W2 := S2
  refine wp_cond_false (S2.bool 0 7 rfl) ?_
  refine wp_skip ?_
  refine thenN ?_
  refine wp_stmt_seq [.val (Part a2 1 0),
      .val (Zv A k1),
      .val (Part a2 1 2),
      .val (Zv ((D : Int)) k2),
      .val ((TWO (ZN (nr A ((D : Int)))) (IS (.int .i64 0))) w.heap.size),
      .val ((ZN (nr A ((D : Int)))) w.heap.size),
      .val (Is (.int .i64 0)),
      .put (.inl 2) (.box 24 ((ZN (nr A ((D : Int)))) w.heap.size)),
      .val (Is (.int .i64 0))] [.inr 0, .inr 1] [.inl 8, .inr 0] follows S2 rfl (by kernel_rfl) ?_ ?_
  · refine ⟨⟨⟨⟨⟨⟨⟨⟨⟨trivial, ?_⟩, ?_⟩, ?_⟩, ?_⟩, ?_⟩, ?_⟩, ?_⟩, ?_⟩, ?_⟩
    · exact owe_part rfl (wants_all rfl) rfl (k := 0) rfl (by kernel_rfl) rfl (fun ρ w b h => part_rat0 ρ _ _ w b 0 h)
    · exact owe_pload rfl (wants_all rfl) rfl (opnd_op 0 9 (by kernel_rfl) rfl) (k := 0) rfl (by kernel_rfl) rfl (fun ρ w b u h1 h2 h3 => pload_num ρ _ _ w b u h1 h2 h3)
    · exact owe_part rfl (wants_all rfl) rfl (k := 0) rfl (by kernel_rfl) rfl (fun ρ w b h => part_rat1 ρ _ _ w b 0 h)
    · exact owe_pload rfl (wants_all rfl) rfl (opnd_op 2 11 (by kernel_rfl) rfl) (k := 0) rfl (by kernel_rfl) rfl (fun ρ w b u h1 h2 h3 => pload_den ρ _ _ w b u h1 h2 h3)
    · exact owe_call2 rfl (wants_all rfl) rfl (opnd_op 1 10 (by kernel_rfl) rfl) (opnd_op 3 12 (by kernel_rfl) rfl) (fresh_two (fresh_zn _) (fresh_is _)) rfl (fun args w => by go_simp) (fun w u v h1 h2 => g_znear hB (by omega) w u v ((fun _ _ h => h) _ _ h1) ((fun _ _ h => h) _ _ h2))
    · exact owe_ext2 rfl (wants_all rfl) rfl (opnd_op 4 13 (by kernel_rfl) rfl) (Or.inl ⟨rfl, rfl⟩) rfl
    · exact owe_ext2 rfl (wants_all rfl) rfl (opnd_op 4 13 (by kernel_rfl) rfl) (Or.inr ⟨rfl, rfl⟩) rfl
    · exact owe_set rfl (wants_all rfl) rfl (k := 1) rfl (by kernel_rfl) (opnd_op 5 14 (by kernel_rfl) rfl) (stores_of strct_int shp_z0 shp_zn) rfl
    · exact owe_move rfl (wants_all rfl) (Or.inr rfl) (opnd_op 6 15 (by kernel_rfl) rfl) rfl
  intro B3 a3 W3 S3
  replace S3 : Sta w 16 [(1, (.box 26 (PR (Zv A k1) (Zv ((D : Int)) k2)))), (2, (.box 24 ((ZN (nr A ((D : Int)))) w.heap.size)))] [(3, (Is (.int .i64 0))), (7, (Is (.bool false)))] B3 a3 W3 := S3
  refine wp_ret ?_
  exact end_two S3 rfl (res_cell S3 1 2 rfl strct_int shp_zn) (res_tmp S3 0 3 rfl)

set_option maxHeartbeats 400000 in
theorem ratnear_b (w : World) (A D : Int) (k1 k2 : Nat) (u : Value) (h : Rv A D k1 k2 u w) (hk1 : k1 ≤ 8388608) (hk2 : k2 ≤ 8388608) (hmf : decide (0 < D.sign) = false) :
    Calls Tryz.prog 13 #[u] w (Gives (TWO (IS (.agg #[.bool false, .slice none 0 0])) (IS (.int .i64 30))) w) := by
  refine calls_sta (sl := [(0, (PR (Zv A k1) (Zv D k2)))]) Tryz.func13 rfl Tryz.ntmps13 (by simp) (args_cons rfl (rv_has h) args_nil) ?_
  intro a0 S0
  refine wp_stmt_seq [.new (.box 26 (PR (Zv A k1) (Zv D k2))),
      .new (.box 24 (Is (.agg #[.bool false, .slice none 0 0]))),
      .val (Is (.int .i64 0))] [.inl 0, .inl 1] [.inl 2] follows S0 rfl (by kernel_rfl) ?_ ?_
  · refine ⟨⟨⟨trivial, ?_⟩, ?_⟩, ?_⟩
    · exact owe_box rfl (wants_all rfl) rfl (opnd_slot 0 0 rfl (by kernel_rfl)) rfl (fun ρ w h => box_rat (shp_pr shp_zv shp_zv) ρ _ _ w h)
    · exact owe_new rfl (wants_all rfl) rfl rfl (fun ρ w => alloc_int ρ _ w)
    · exact owe_move rfl (wants_all rfl) (Or.inr rfl) (opnd_const _) rfl
  intro B1 a1 W1 S1
  replace S1 : Sta w 16 [(1, (.box 26 (PR (Zv A k1) (Zv D k2)))), (2, (.box 24 (Is (.agg #[.bool false, .slice none 0 0]))))] [(3, (Is (.int .i64 0)))] B1 a1 W1 := S1
  refine wp_seq ?_
  refine wp_stmt_seq [.val (PR (Zv A k1) (Zv D k2)),
      .val (RL1 (PR (Zv A k1) (Zv D k2)) w.heap.size),
      .val (Is (.bool false)),
      .val (Is (.bool true))] [.inr 0, .inr 1] [.inl 3, .inr 0] follows S1 rfl (by kernel_rfl) ?_ ?_
  · refine ⟨⟨⟨⟨trivial, ?_⟩, ?_⟩, ?_⟩, ?_⟩
    · exact owe_load rfl (wants_all rfl) rfl (k := 0) rfl (by kernel_rfl) (loads_of strct_rat (shp_pr shp_zv shp_zv)) rfl
    · exact owe_rl1 rfl (wants_all rfl) rfl (opnd_op 0 4 (by kernel_rfl) rfl) (shp_pr shp_zv shp_zv) rfl
    · exact owe_call1 rfl (wants_all rfl) rfl (opnd_op 1 5 (by kernel_rfl) rfl) (fresh_is _) rfl (fun args w => by go_simp) (fun w u h1 => Gives.cast (g_maybe1 (by omega) w u (rl1_imp (pr_imp (fun _ _ h => h) (fun _ _ h => h)) _ _ h1)) (by rw [hmf]))
    · exact owe_un (x := .tmp 6) rfl (wants_all rfl) rfl (opnd_op 2 6 (by kernel_rfl) rfl) rfl (fun ρ w h1 => run_not ρ _ _ w _ h1)
  intro B2 a2 W2 S2
  replace S2 : Sta w 16 [(1, (.box 26 (PR (Zv A k1) (Zv D k2)))), (2, (.box 24 (Is (.agg #[.bool false, .slice none 0 0]))))] [(7, (Is (.bool true))), (3, (Is (.int .i64 0)))] B2 a2 W2 := S2
  refine wp_cond_true (S2.bool 0 7 rfl) ?_
  refine wp_stmt_seq [.val (Is (.agg #[.bool false, .slice none 0 0])),
      .put (.inl 2) (.box 24 (Is (.agg #[.bool false, .slice none 0 0]))),
      .val (Is (.int .i64 30))] [.inr 0, .inr 1] [.inl 2, .inr 0] follows S2 rfl (by kernel_rfl) ?_ ?_
  · refine ⟨⟨⟨trivial, ?_⟩, ?_⟩, ?_⟩
    · exact owe_build_int rfl (wants_all rfl) rfl rfl
    · exact owe_set rfl (wants_all rfl) rfl (k := 1) rfl (by kernel_rfl) (opnd_op 0 8 (by kernel_rfl) rfl) (stores_of strct_int shp_z0 shp_z0) rfl
    · exact owe_move rfl (wants_all rfl) (Or.inr rfl) (opnd_const _) rfl
  intro B3 a3 W3 S3
  replace S3 : Sta w 16 [(1, (.box 26 (PR (Zv A k1) (Zv D k2)))), (2, (.box 24 (Is (.agg #[.bool false, .slice none 0 0]))))] [(3, (Is (.int .i64 30))), (7, (Is (.bool true)))] B3 a3 W3 := S3
  refine wp_ret ?_
  refine thenR ?_
  exact end_two S3 rfl (res_cell S3 1 2 rfl strct_int shp_z0) (res_tmp S3 0 3 rfl)

theorem g_ratnear {A : Int} {D k1 k2 : Nat} (hD : D ≠ 0) (hk1 : k1 ≤ 8388608) (hk2 : k2 ≤ 8388608) : ∀ w u, Rv A (D : Int) k1 k2 u w → Calls Tryz.prog 13 #[u] w (Gives (TWO (ZN (nr A (D : Int))) (IS (.int .i64 0))) w) := fun w u h => ratnear_w w A D k1 k2 u h hk1 hk2 (by omega) (by rw [pos_sign hD]; rfl)

set_option maxHeartbeats 400000 in
theorem rvalid_w (w : World) (A D : Int) (k1 k2 : Nat) (u : Value) (h : Rv A D k1 k2 u w) (hk1 : k1 ≤ 8388608) (hk2 : k2 ≤ 8388608) :
    Calls Tryz.prog 34 #[u] w (Gives (IS (.bool (decide (0 < D.sign)))) w) := by
  refine calls_sta (sl := [(0, (PR (Zv A k1) (Zv D k2)))]) Tryz.func34 rfl Tryz.ntmps34 (by simp) (args_cons rfl (rv_has h) args_nil) ?_
  intro a0 S0
  refine wp_stmt_seq [.new (.box 26 (PR (Zv A k1) (Zv D k2))),
      .val (Is (.bool false))] [.inl 0] [.inl 1] follows S0 rfl (by kernel_rfl) ?_ ?_
  · refine ⟨⟨trivial, ?_⟩, ?_⟩
    · exact owe_box rfl (wants_all rfl) rfl (opnd_slot 0 0 rfl (by kernel_rfl)) rfl (fun ρ w h => box_rat (shp_pr shp_zv shp_zv) ρ _ _ w h)
    · exact owe_move rfl (wants_all rfl) (Or.inr rfl) (opnd_const _) rfl
  intro B1 a1 W1 S1
  replace S1 : Sta w 7 [(1, (.box 26 (PR (Zv A k1) (Zv D k2))))] [(2, (Is (.bool false)))] B1 a1 W1 := S1
  refine wp_stmt_seq [.val (Part a1 1 2),
      .val (Zv D k2),
      .val (Is (.int .i64 (D).sign)),
      .val (Is (.bool (decide (0 < D.sign)))),
      .val (Is (.bool (decide (0 < D.sign))))] [.inr 0] [.inl 4] follows S1 rfl (by kernel_rfl) ?_ ?_
  · refine ⟨⟨⟨⟨⟨trivial, ?_⟩, ?_⟩, ?_⟩, ?_⟩, ?_⟩
    · exact owe_part rfl (wants_all rfl) rfl (k := 0) rfl (by kernel_rfl) rfl (fun ρ w b h => part_rat1 ρ _ _ w b 0 h)
    · exact owe_pload rfl (wants_all rfl) rfl (opnd_op 0 3 (by kernel_rfl) rfl) (k := 0) rfl (by kernel_rfl) rfl (fun ρ w b u h1 h2 h3 => pload_den ρ _ _ w b u h1 h2 h3)
    · exact owe_call1 rfl (wants_all rfl) rfl (opnd_op 1 4 (by kernel_rfl) rfl) (fresh_is _) rfl (fun args w => by go_simp) (fun w u h1 => g_rsign (by omega) w u ((fun _ _ h => h) _ _ h1))
    · exact owe_bin rfl (wants_all rfl) rfl (opnd_op 2 5 (by kernel_rfl) rfl) (opnd_const _) rfl (fun ρ w h1 h2 => by exact run_gtr_int_d ρ _ _ _ w _ _ h1 h2)
    · exact owe_move rfl (wants_all rfl) (Or.inr rfl) (opnd_op 3 6 (by kernel_rfl) rfl) rfl
  intro B2 a2 W2 S2
  replace S2 : Sta w 7 [(1, (.box 26 (PR (Zv A k1) (Zv D k2))))] [(2, (Is (.bool (decide (0 < D.sign)))))] B2 a2 W2 := S2
  refine wp_ret ?_
  exact end_one S2 rfl (res_tmp S2 0 2 rfl)

theorem g_rvalid {A D : Int} {k1 k2 : Nat} (hk1 : k1 ≤ 8388608) (hk2 : k2 ≤ 8388608) : ∀ w u, Rv A D k1 k2 u w → Calls Tryz.prog 34 #[u] w (Gives (IS (.bool (decide (0 < D.sign)))) w) := fun w u h => rvalid_w w A D k1 k2 u h hk1 hk2

set_option maxHeartbeats 400000 in
theorem rok_w (w : World) (A D : Int) (k1 k2 : Nat) (u : Value) (h : Rv A D k1 k2 u w) (hk1 : k1 ≤ 8388608) (hk2 : k2 ≤ 8388608) :
    Calls Tryz.prog 15 #[u] w (Gives (IS (.bool (decide (0 < D.sign)))) w) := by
  refine calls_sta (sl := [(0, (PR (Zv A k1) (Zv D k2)))]) Tryz.func15 rfl Tryz.ntmps15 (by simp) (args_cons rfl (rv_has h) args_nil) ?_
  intro a0 S0
  refine wp_stmt_seq [.new (.box 26 (PR (Zv A k1) (Zv D k2))),
      .val (Is (.bool false))] [.inl 0] [.inl 1] follows S0 rfl (by kernel_rfl) ?_ ?_
  · refine ⟨⟨trivial, ?_⟩, ?_⟩
    · exact owe_box rfl (wants_all rfl) rfl (opnd_slot 0 0 rfl (by kernel_rfl)) rfl (fun ρ w h => box_rat (shp_pr shp_zv shp_zv) ρ _ _ w h)
    · exact owe_move rfl (wants_all rfl) (Or.inr rfl) (opnd_const _) rfl
  intro B1 a1 W1 S1
  replace S1 : Sta w 5 [(1, (.box 26 (PR (Zv A k1) (Zv D k2))))] [(2, (Is (.bool false)))] B1 a1 W1 := S1
  refine wp_stmt_seq [.val (PR (Zv A k1) (Zv D k2)),
      .val (Is (.bool (decide (0 < D.sign)))),
      .val (Is (.bool (decide (0 < D.sign))))] [.inr 0] [.inl 2] follows S1 rfl (by kernel_rfl) ?_ ?_
  · refine ⟨⟨⟨trivial, ?_⟩, ?_⟩, ?_⟩
    · exact owe_load rfl (wants_all rfl) rfl (k := 0) rfl (by kernel_rfl) (loads_of strct_rat (shp_pr shp_zv shp_zv)) rfl
    · exact owe_call1 rfl (wants_all rfl) rfl (opnd_op 0 3 (by kernel_rfl) rfl) (fresh_is _) rfl (fun args w => by go_simp) (fun w u h1 => g_rvalid (by omega) (by omega) w u ((pr_imp (fun _ _ h => h) (fun _ _ h => h)) _ _ h1))
    · exact owe_move rfl (wants_all rfl) (Or.inr rfl) (opnd_op 1 4 (by kernel_rfl) rfl) rfl
  intro B2 a2 W2 S2
  replace S2 : Sta w 5 [(1, (.box 26 (PR (Zv A k1) (Zv D k2))))] [(2, (Is (.bool (decide (0 < D.sign)))))] B2 a2 W2 := S2
  refine wp_ret ?_
  exact end_one S2 rfl (res_tmp S2 0 2 rfl)

theorem g_rok {A D : Int} {k1 k2 : Nat} (hk1 : k1 ≤ 8388608) (hk2 : k2 ≤ 8388608) : ∀ w u, Rv A D k1 k2 u w → Calls Tryz.prog 15 #[u] w (Gives (IS (.bool (decide (0 < D.sign)))) w) := fun w u h => rok_w w A D k1 k2 u h hk1 hk2

set_option maxHeartbeats 400000 in
theorem rboth_t (w : World) (A N D M : Int) (k1 k2 k3 k4 : Nat) (u v : Value) (h : Rv A D k1 k2 u w) (h' : Rv N M k3 k4 v w) (hk1 : k1 ≤ 8388608) (hk2 : k2 ≤ 8388608) (hk3 : k3 ≤ 8388608) (hk4 : k4 ≤ 8388608) (h1 : decide (0 < D.sign) = true) (h2 : decide (0 < M.sign) = true) :
    Calls Tryz.prog 7 #[u, v] w (Gives (IS (.bool true)) w) := by
  refine calls_sta (sl := [(0, (PR (Zv A k1) (Zv D k2))), (1, (PR (Zv N k3) (Zv M k4)))]) Tryz.func7 rfl Tryz.ntmps7 (by simp) (args_cons rfl (rv_has h) (args_cons rfl (rv_has h') args_nil)) ?_
  intro a0 S0
  refine wp_stmt_seq [.new (.box 26 (PR (Zv A k1) (Zv D k2))),
      .new (.box 26 (PR (Zv N k3) (Zv M k4))),
      .val (Is (.bool false))] [.inl 0, .inl 1] [.inl 2] follows S0 rfl (by kernel_rfl) ?_ ?_
  · refine ⟨⟨⟨trivial, ?_⟩, ?_⟩, ?_⟩
    · exact owe_box rfl (wants_all rfl) rfl (opnd_slot 0 0 rfl (by kernel_rfl)) rfl (fun ρ w h => box_rat (shp_pr shp_zv shp_zv) ρ _ _ w h)
    · exact owe_box rfl (wants_all rfl) rfl (opnd_slot 1 1 rfl (by kernel_rfl)) rfl (fun ρ w h => box_rat (shp_pr shp_zv shp_zv) ρ _ _ w h)
    · exact owe_move rfl (wants_all rfl) (Or.inr rfl) (opnd_const _) rfl
  intro B1 a1 W1 S1
  replace S1 : Sta w 11 [(2, (.box 26 (PR (Zv A k1) (Zv D k2)))), (3, (.box 26 (PR (Zv N k3) (Zv M k4))))] [(4, (Is (.bool false)))] B1 a1 W1 := S1
  refine wp_stmt_seq [.val (PR (Zv A k1) (Zv D k2)),
      .val (Is (.bool true)),
      .val (Is (.bool true)),
      .val (PR (Zv N k3) (Zv M k4)),
      .val (Is (.bool true)),
      .val (Is (.bool true)),
      .val (Is (.bool true))] [.inr 0, .inr 1] [.inl 6] follows S1 rfl (by kernel_rfl) ?_ ?_
  · refine ⟨⟨⟨⟨⟨⟨⟨trivial, ?_⟩, ?_⟩, ?_⟩, ?_⟩, ?_⟩, ?_⟩, ?_⟩
    · exact owe_load rfl (wants_all rfl) rfl (k := 0) rfl (by kernel_rfl) (loads_of strct_rat (shp_pr shp_zv shp_zv)) rfl
    · exact owe_call1 rfl (wants_all rfl) rfl (opnd_op 0 5 (by kernel_rfl) rfl) (fresh_is _) rfl (fun args w => by go_simp) (fun w u0 h0 => Gives.cast ((fun w u h1 => g_rok (by omega) (by omega) w u ((pr_imp (fun _ _ h => h) (fun _ _ h => h)) _ _ h1)) w u0 h0) (by rw [h1]))
    · exact owe_move rfl (wants_all rfl) (Or.inl rfl) (opnd_op 1 6 (by kernel_rfl) rfl) rfl
    · exact owe_load rfl (wants_if 2 7 rfl (by kernel_rfl) rfl) rfl (k := 1) rfl (by kernel_rfl) (loads_of strct_rat (shp_pr shp_zv shp_zv)) rfl
    · exact owe_call1 rfl (wants_if 2 7 rfl (by kernel_rfl) rfl) rfl (opnd_op 3 8 (by kernel_rfl) rfl) (fresh_is _) rfl (fun args w => by go_simp) (fun w u0 h0 => Gives.cast ((fun w u h1 => g_rok (by omega) (by omega) w u ((pr_imp (fun _ _ h => h) (fun _ _ h => h)) _ _ h1)) w u0 h0) (by rw [h2]))
    · exact owe_pick rfl (wants_all rfl) rfl (opnd_op 2 7 (by kernel_rfl) rfl) (fun _ => (opnd_op 4 9 (by kernel_rfl) rfl)) (fun h => nomatch h) rfl
    · exact owe_move rfl (wants_all rfl) (Or.inr rfl) (opnd_op 5 10 (by kernel_rfl) rfl) rfl
  intro B2 a2 W2 S2
  replace S2 : Sta w 11 [(2, (.box 26 (PR (Zv A k1) (Zv D k2)))), (3, (.box 26 (PR (Zv N k3) (Zv M k4))))] [(4, (Is (.bool true)))] B2 a2 W2 := S2
  refine wp_ret ?_
  exact end_one S2 rfl (res_tmp S2 0 4 rfl)

set_option maxHeartbeats 400000 in
theorem rboth_f (w : World) (A N D M : Int) (k1 k2 k3 k4 : Nat) (u v : Value) (h : Rv A D k1 k2 u w) (h' : Rv N M k3 k4 v w) (hk1 : k1 ≤ 8388608) (hk2 : k2 ≤ 8388608) (hk3 : k3 ≤ 8388608) (hk4 : k4 ≤ 8388608) (h1 : decide (0 < D.sign) = true) (h2 : decide (0 < M.sign) = false) :
    Calls Tryz.prog 7 #[u, v] w (Gives (IS (.bool false)) w) := by
  refine calls_sta (sl := [(0, (PR (Zv A k1) (Zv D k2))), (1, (PR (Zv N k3) (Zv M k4)))]) Tryz.func7 rfl Tryz.ntmps7 (by simp) (args_cons rfl (rv_has h) (args_cons rfl (rv_has h') args_nil)) ?_
  intro a0 S0
  refine wp_stmt_seq [.new (.box 26 (PR (Zv A k1) (Zv D k2))),
      .new (.box 26 (PR (Zv N k3) (Zv M k4))),
      .val (Is (.bool false))] [.inl 0, .inl 1] [.inl 2] follows S0 rfl (by kernel_rfl) ?_ ?_
  · refine ⟨⟨⟨trivial, ?_⟩, ?_⟩, ?_⟩
    · exact owe_box rfl (wants_all rfl) rfl (opnd_slot 0 0 rfl (by kernel_rfl)) rfl (fun ρ w h => box_rat (shp_pr shp_zv shp_zv) ρ _ _ w h)
    · exact owe_box rfl (wants_all rfl) rfl (opnd_slot 1 1 rfl (by kernel_rfl)) rfl (fun ρ w h => box_rat (shp_pr shp_zv shp_zv) ρ _ _ w h)
    · exact owe_move rfl (wants_all rfl) (Or.inr rfl) (opnd_const _) rfl
  intro B1 a1 W1 S1
  replace S1 : Sta w 11 [(2, (.box 26 (PR (Zv A k1) (Zv D k2)))), (3, (.box 26 (PR (Zv N k3) (Zv M k4))))] [(4, (Is (.bool false)))] B1 a1 W1 := S1
  refine wp_stmt_seq [.val (PR (Zv A k1) (Zv D k2)),
      .val (Is (.bool true)),
      .val (Is (.bool true)),
      .val (PR (Zv N k3) (Zv M k4)),
      .val (Is (.bool false)),
      .val (Is (.bool false)),
      .val (Is (.bool false))] [.inr 0, .inr 1] [.inl 6] follows S1 rfl (by kernel_rfl) ?_ ?_
  · refine ⟨⟨⟨⟨⟨⟨⟨trivial, ?_⟩, ?_⟩, ?_⟩, ?_⟩, ?_⟩, ?_⟩, ?_⟩
    · exact owe_load rfl (wants_all rfl) rfl (k := 0) rfl (by kernel_rfl) (loads_of strct_rat (shp_pr shp_zv shp_zv)) rfl
    · exact owe_call1 rfl (wants_all rfl) rfl (opnd_op 0 5 (by kernel_rfl) rfl) (fresh_is _) rfl (fun args w => by go_simp) (fun w u0 h0 => Gives.cast ((fun w u h1 => g_rok (by omega) (by omega) w u ((pr_imp (fun _ _ h => h) (fun _ _ h => h)) _ _ h1)) w u0 h0) (by rw [h1]))
    · exact owe_move rfl (wants_all rfl) (Or.inl rfl) (opnd_op 1 6 (by kernel_rfl) rfl) rfl
    · exact owe_load rfl (wants_if 2 7 rfl (by kernel_rfl) rfl) rfl (k := 1) rfl (by kernel_rfl) (loads_of strct_rat (shp_pr shp_zv shp_zv)) rfl
    · exact owe_call1 rfl (wants_if 2 7 rfl (by kernel_rfl) rfl) rfl (opnd_op 3 8 (by kernel_rfl) rfl) (fresh_is _) rfl (fun args w => by go_simp) (fun w u0 h0 => Gives.cast ((fun w u h1 => g_rok (by omega) (by omega) w u ((pr_imp (fun _ _ h => h) (fun _ _ h => h)) _ _ h1)) w u0 h0) (by rw [h2]))
    · exact owe_pick rfl (wants_all rfl) rfl (opnd_op 2 7 (by kernel_rfl) rfl) (fun _ => (opnd_op 4 9 (by kernel_rfl) rfl)) (fun h => nomatch h) rfl
    · exact owe_move rfl (wants_all rfl) (Or.inr rfl) (opnd_op 5 10 (by kernel_rfl) rfl) rfl
  intro B2 a2 W2 S2
  replace S2 : Sta w 11 [(2, (.box 26 (PR (Zv A k1) (Zv D k2)))), (3, (.box 26 (PR (Zv N k3) (Zv M k4))))] [(4, (Is (.bool false)))] B2 a2 W2 := S2
  refine wp_ret ?_
  exact end_one S2 rfl (res_tmp S2 0 4 rfl)

set_option maxHeartbeats 400000 in
theorem rboth_g (w : World) (A N D M : Int) (k1 k2 k3 k4 : Nat) (u v : Value) (h : Rv A D k1 k2 u w) (h' : Rv N M k3 k4 v w) (hk1 : k1 ≤ 8388608) (hk2 : k2 ≤ 8388608) (hk3 : k3 ≤ 8388608) (hk4 : k4 ≤ 8388608) (h1 : decide (0 < D.sign) = false) :
    Calls Tryz.prog 7 #[u, v] w (Gives (IS (.bool false)) w) := by
  refine calls_sta (sl := [(0, (PR (Zv A k1) (Zv D k2))), (1, (PR (Zv N k3) (Zv M k4)))]) Tryz.func7 rfl Tryz.ntmps7 (by simp) (args_cons rfl (rv_has h) (args_cons rfl (rv_has h') args_nil)) ?_
  intro a0 S0
  refine wp_stmt_seq [.new (.box 26 (PR (Zv A k1) (Zv D k2))),
      .new (.box 26 (PR (Zv N k3) (Zv M k4))),
      .val (Is (.bool false))] [.inl 0, .inl 1] [.inl 2] follows S0 rfl (by kernel_rfl) ?_ ?_
  · refine ⟨⟨⟨trivial, ?_⟩, ?_⟩, ?_⟩
    · exact owe_box rfl (wants_all rfl) rfl (opnd_slot 0 0 rfl (by kernel_rfl)) rfl (fun ρ w h => box_rat (shp_pr shp_zv shp_zv) ρ _ _ w h)
    · exact owe_box rfl (wants_all rfl) rfl (opnd_slot 1 1 rfl (by kernel_rfl)) rfl (fun ρ w h => box_rat (shp_pr shp_zv shp_zv) ρ _ _ w h)
    · exact owe_move rfl (wants_all rfl) (Or.inr rfl) (opnd_const _) rfl
  intro B1 a1 W1 S1
  replace S1 : Sta w 11 [(2, (.box 26 (PR (Zv A k1) (Zv D k2)))), (3, (.box 26 (PR (Zv N k3) (Zv M k4))))] [(4, (Is (.bool false)))] B1 a1 W1 := S1
  refine wp_stmt_seq [.val (PR (Zv A k1) (Zv D k2)),
      .val (Is (.bool false)),
      .val (Is (.bool false)),
      .off,
      .off,
      .val (Is (.bool false)),
      .val (Is (.bool false))] [.inr 0, .inr 1] [.inl 6] follows S1 rfl (by kernel_rfl) ?_ ?_
  · refine ⟨⟨⟨⟨⟨⟨⟨trivial, ?_⟩, ?_⟩, ?_⟩, ?_⟩, ?_⟩, ?_⟩, ?_⟩
    · exact owe_load rfl (wants_all rfl) rfl (k := 0) rfl (by kernel_rfl) (loads_of strct_rat (shp_pr shp_zv shp_zv)) rfl
    · exact owe_call1 rfl (wants_all rfl) rfl (opnd_op 0 5 (by kernel_rfl) rfl) (fresh_is _) rfl (fun args w => by go_simp) (fun w u0 h0 => Gives.cast ((fun w u h1 => g_rok (by omega) (by omega) w u ((pr_imp (fun _ _ h => h) (fun _ _ h => h)) _ _ h1)) w u0 h0) (by rw [h1]))
    · exact owe_move rfl (wants_all rfl) (Or.inl rfl) (opnd_op 1 6 (by kernel_rfl) rfl) rfl
    · exact owe_off 2 7 rfl rfl rfl (by kernel_rfl) rfl (by decide)
    · exact owe_off 2 7 rfl rfl rfl (by kernel_rfl) rfl (by decide)
    · exact owe_pick rfl (wants_all rfl) rfl (opnd_op 2 7 (by kernel_rfl) rfl) (fun h => nomatch h) (fun _ => (opnd_const _)) rfl
    · exact owe_move rfl (wants_all rfl) (Or.inr rfl) (opnd_op 5 10 (by kernel_rfl) rfl) rfl
  intro B2 a2 W2 S2
  replace S2 : Sta w 11 [(2, (.box 26 (PR (Zv A k1) (Zv D k2)))), (3, (.box 26 (PR (Zv N k3) (Zv M k4))))] [(4, (Is (.bool false)))] B2 a2 W2 := S2
  refine wp_ret ?_
  exact end_one S2 rfl (res_tmp S2 0 4 rfl)

theorem g_both_t {A N D M : Int} {k1 k2 k3 k4 : Nat} (h1 : decide (0 < D.sign) = true) (h2 : decide (0 < M.sign) = true) (hk1 : k1 ≤ 8388608) (hk2 : k2 ≤ 8388608) (hk3 : k3 ≤ 8388608) (hk4 : k4 ≤ 8388608) : ∀ w u v, Rv A D k1 k2 u w → Rv N M k3 k4 v w → Calls Tryz.prog 7 #[u, v] w (Gives (IS (.bool true)) w) := fun w u v h h' => rboth_t w A N D M k1 k2 k3 k4 u v h h' hk1 hk2 hk3 hk4 h1 h2
theorem g_both_f {A N D M : Int} {k1 k2 k3 k4 : Nat} (hmay : (decide (0 < D.sign) && decide (0 < M.sign)) = false) (hk1 : k1 ≤ 8388608) (hk2 : k2 ≤ 8388608) (hk3 : k3 ≤ 8388608) (hk4 : k4 ≤ 8388608) : ∀ w u v, Rv A D k1 k2 u w → Rv N M k3 k4 v w → Calls Tryz.prog 7 #[u, v] w (Gives (IS (.bool false)) w) := fun w u v h h' => by
  cases e : decide (0 < D.sign) with
  | false => exact rboth_g w A N D M k1 k2 k3 k4 u v h h' hk1 hk2 hk3 hk4 e
  | true => exact rboth_f w A N D M k1 k2 k3 k4 u v h h' hk1 hk2 hk3 hk4 e (by rw [e] at hmay; simpa using hmay)


theorem len_mul {a b k l : Nat} (h : (digs a).length ≤ k) (h' : (digs b).length ≤ l) : (digs (a * b)).length ≤ k + l := digs_mul_len h h'
theorem adN_len {A N : Int} {D M k l : Nat} (hA : (digs A.natAbs).length ≤ k) (hD : (digs D).length ≤ k) (hN : (digs N.natAbs).length ≤ l) (hM : (digs M).length ≤ l) : (digs (adN A N D M).natAbs).length ≤ k + l + 1 := by
  unfold adN
  refine dl_add (dl_mul hA (by rw [Int.natAbs_natCast]; exact hM)) ?_
  rw [Nat.add_comm k l]
  exact dl_mul hN (by rw [Int.natAbs_natCast]; exact hD)
theorem pos_of_sign {D : Int} (h : decide (0 < D.sign) = true) : ∃ d : Nat, D = (d : Int) ∧ d ≠ 0 := by
  have h1 : 0 < D.sign := of_decide_eq_true h
  have h2 : 0 < D := by
    rcases Int.lt_trichotomy D 0 with h | h | h
    · rw [Int.sign_eq_neg_one_of_neg h] at h1; omega
    · rw [h] at h1; exact absurd h1 (by decide)
    · exact h
  exact ⟨D.toNat, by omega, by omega⟩
/-- What is said of a fraction and its lowest terms. -/
theorem fr {P : Int} {Y : Nat} {n : Int} {d : Nat} (e1 : nR P Y = n) (e2 : dR P Y = d) : n * (Y : Int) = P * (d : Int) := by rw [← e1, ← e2]; exact nR_mul P Y
theorem low_eq {P P' : Int} {Y Y' : Nat} {n : Int} {d : Nat} (hY : Y ≠ 0) (hY' : Y' ≠ 0) (h : P * (Y' : Int) = P' * (Y : Int)) (e1 : nR P' Y' = n) (e2 : dR P' Y' = d) : RN (nR P Y) (dR P Y) = RN n d := by
  rw [low_num hY hY' h, e1, e2]
theorem rv_in {w : World} {s t : Bool} {p q : Option Addr} {n c m d : Nat} {xs ys : List Nat} (h : Sl w p n c xs) (h' : Sl w q m d ys) : Rv (sg s (val xs)) (sg t (val ys)) n m (.agg #[.bool s, .slice p n c, .bool t, .slice q m d]) w := ⟨_, _, _, _, rfl, ⟨s, p, n, c, xs, rfl, h, rfl, Nat.le_refl _⟩, ⟨t, q, m, d, ys, rfl, h', rfl, Nat.le_refl _⟩⟩

end Go.Proofs.YteamecapeghnoaaGreatDoor
