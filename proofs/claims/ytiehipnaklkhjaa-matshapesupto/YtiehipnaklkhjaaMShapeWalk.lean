/-
  MatShapes' walk: it returns true and writes nothing that was there.
-/
import Derived.Test.YtiehipnaklkhjaaMShape
import Derived.Test.YtiehipnaklkhjaaSetS
import Derived.Test.YtiehipnaklkhjaaMRForm
namespace Go.Proofs.Ytiehipnaklkhjaa
open Go Go.RowKit Nt
set_option linter.unusedSimpArgs false
set_option linter.unusedVariables false
set_option maxRecDepth 20000


theorem ml_zzS {ess : List (List El)} {k : Nat} (h : Ml ess k) : Ml (zz ess) k := fun i zs hz => by
  obtain ⟨es, he, rfl⟩ := map_get hz
  rw [List.length_map]
  exact h i es he
def shH (A : List (List Int)) : Nat := if reg A then A.length else 0
def shW (A : List (List Int)) : Nat := if reg A then wd A else 0

theorem h_shape (w : World) (u : Value) (n k : Nat) (A : List (List Int)) (h : Hs w (Mv n A k) u) (hn : n ≤ 1048576) : Calls Try.prog 8 #[u] w (Gives (THREE (IS (.int .i64 (shH A : Nat))) (IS (.int .i64 (shW A : Nat))) (IS (.int .i64 (errB (reg A))))) w) := by
  have hA := mv_len h.now
  by_cases e : reg A = true
  · simp only [shH, shW, errB, e, if_true, hA]
    exact h_shape_y w u n k (wd A) A h hn (reg_y e) (fun h => wd_zero (by omega))
  · simp only [shH, shW, errB, e, Bool.false_eq_true, if_false]
    exact h_shape_n w u n k A h hn e

theorem h_rshape (w : World) (u : Value) (n k : Nat) (A : List (List Int)) (h : Hs w (Mv n A k) u) (hn : n ≤ 1048576) : Calls Try.prog 10 #[u] w (Gives (THREE (IS (.int .i64 (shH A : Nat))) (IS (.int .i64 (shW A : Nat))) (IS (.int .i64 (errB (reg A))))) w) := by
  have hA := mv_len h.now
  by_cases e : reg A = true
  · simp only [shH, shW, errB, e, if_true, hA]
    exact h_rshape_y w u n k (wd A) A h hn (reg_y e) (fun h => wd_zero (by omega))
  · simp only [shH, shW, errB, e, Bool.false_eq_true, if_false]
    exact h_rshape_n w u n k A h hn e

set_option maxHeartbeats 8000000 in
theorem matshapes_w (w : World) (u : Value) (n : Nat) (es : List (List El)) (z : Int) (h : Hs w (Mx n es) u) (hn : n ≤ 1048576) (hE : Me es El.n 1048576) (hEc : Me es El.c 35184372087808) (hEl : Ml es 1048576) :
    Calls Try.prog 3 #[u, .int .i64 z] w (Gives (IS (.bool true)) w) := by
  have hEz := ml_zzS hEl
  refine calls_sta (sl := [(0, (Mx n es)), (1, (Is (.int .i64 z)))]) Try.func3 rfl Try.ntmps3 (by simp) (args_cons rfl (h) (args_cons rfl (is_has _) args_nil)) ?_
  intro a0 S0
  refine wp_stmt_seq [.val (Is (.bool false))] [] [.inl 0, .inr 0, .inr 1] follows S0 rfl (by kernel_rfl) ?_ ?_
  · refine ⟨trivial, ?_⟩
    · exact owe_move rfl (wants_all rfl) (Or.inr rfl) (opnd_const _) rfl
  intro B1 a1 W1 S1
  replace S1 : Sta w 73 [] [(4, (Is (.bool false))), (0, (Mx n es)), (1, (Is (.int .i64 z)))] B1 a1 W1 := S1
  refine wp_stmt_seq [.val (Mx n es),
      .val ((MO n es) w.heap.size),
      .val ((THREE (IS (.int .i64 (shH (zz es) : Nat))) (IS (.int .i64 (shW (zz es) : Nat))) (IS (.int .i64 (errB (reg (zz es)))))) w.heap.size),
      .val ((THREE (IS (.int .i64 (shH (zz es) : Nat))) (IS (.int .i64 (shW (zz es) : Nat))) (IS (.int .i64 (errB (reg (zz es)))))) w.heap.size),
      .val (Is (.int .i64 (shH (zz es) : Nat))),
      .val (Is (.int .i64 (shW (zz es) : Nat))),
      .val (Is (.int .i64 (errB (reg (zz es))))),
      .val (Is (.int .i64 (shH (zz es) : Nat))),
      .val (Is (.int .i64 (shW (zz es) : Nat))),
      .val (Is (.int .i64 (errB (reg (zz es)))))] [] [.inl 7, .inl 8, .inl 9, .inr 0, .inr 1, .inr 2] follows S1 rfl (by kernel_rfl) ?_ ?_
  · refine ⟨⟨⟨⟨⟨⟨⟨⟨⟨⟨trivial, ?_⟩, ?_⟩, ?_⟩, ?_⟩, ?_⟩, ?_⟩, ?_⟩, ?_⟩, ?_⟩, ?_⟩
    · exact owe_move rfl (wants_all rfl) (Or.inl rfl) (opnd_slot 1 0 rfl (by kernel_rfl)) rfl
    · exact owe_callh1 rfl (wants_all rfl) rfl (opnd_op 0 14 (by kernel_rfl) rfl) fresh_mo rfl (fun args w => by go_simp) (fun w u h => ownm_w w u _ _ h hn hEl hEc)
    · exact owe_callh1 rfl (wants_all rfl) rfl ((opnd_op 1 15 (by kernel_rfl) rfl).imp (mo_mv hE)) (fresh_three (fresh_is _) (fresh_is _) (fresh_is _)) rfl (fun args w => by go_simp) (fun w u h => h_shape w u n 1048576 _ h (by omega))
    · exact owe_move rfl (wants_all rfl) (Or.inl rfl) (opnd_op 2 16 (by kernel_rfl) rfl) rfl
    · exact owe_ext3 rfl (wants_all rfl) rfl (opnd_op 3 13 (by kernel_rfl) rfl) (Or.inl ⟨rfl, rfl⟩) rfl
    · exact owe_ext3 rfl (wants_all rfl) rfl (opnd_op 3 13 (by kernel_rfl) rfl) (Or.inr (Or.inl ⟨rfl, rfl⟩)) rfl
    · exact owe_ext3 rfl (wants_all rfl) rfl (opnd_op 3 13 (by kernel_rfl) rfl) (Or.inr (Or.inr ⟨rfl, rfl⟩)) rfl
    · exact owe_move rfl (wants_all rfl) (Or.inr rfl) (opnd_op 4 17 (by kernel_rfl) rfl) rfl
    · exact owe_move rfl (wants_all rfl) (Or.inr rfl) (opnd_op 5 18 (by kernel_rfl) rfl) rfl
    · exact owe_move rfl (wants_all rfl) (Or.inr rfl) (opnd_op 6 19 (by kernel_rfl) rfl) rfl
  intro B2 a2 W2 S2
  replace S2 : Sta w 73 [] [(5, (Is (.int .i64 (shH (zz es) : Nat)))), (6, (Is (.int .i64 (shW (zz es) : Nat)))), (7, (Is (.int .i64 (errB (reg (zz es)))))), (4, (Is (.bool false))), (0, (Mx n es)), (1, (Is (.int .i64 z)))] B2 a2 W2 := S2
  refine wp_stmt_seq [.val (Mx n es),
      .val ((THREE (IS (.int .i64 (shH (zz es) : Nat))) (IS (.int .i64 (shW (zz es) : Nat))) (IS (.int .i64 (errB (reg (zz es)))))) w.heap.size),
      .val ((THREE (IS (.int .i64 (shH (zz es) : Nat))) (IS (.int .i64 (shW (zz es) : Nat))) (IS (.int .i64 (errB (reg (zz es)))))) w.heap.size),
      .val (Is (.int .i64 (shH (zz es) : Nat))),
      .val (Is (.int .i64 (shW (zz es) : Nat))),
      .val (Is (.int .i64 (errB (reg (zz es))))),
      .val (Is (.int .i64 (shH (zz es) : Nat))),
      .val (Is (.int .i64 (shW (zz es) : Nat))),
      .val (Is (.int .i64 (errB (reg (zz es)))))] [] [.inl 6, .inl 7, .inl 8, .inr 0, .inr 1, .inr 2, .inr 3, .inr 4, .inr 5] follows S2 rfl (by kernel_rfl) ?_ ?_
  · refine ⟨⟨⟨⟨⟨⟨⟨⟨⟨trivial, ?_⟩, ?_⟩, ?_⟩, ?_⟩, ?_⟩, ?_⟩, ?_⟩, ?_⟩, ?_⟩
    · exact owe_move rfl (wants_all rfl) (Or.inl rfl) (opnd_slot 4 0 rfl (by kernel_rfl)) rfl
    · exact owe_callh1 rfl (wants_all rfl) rfl ((opnd_op 0 21 (by kernel_rfl) rfl).imp (mx_mv hE)) (fresh_three (fresh_is _) (fresh_is _) (fresh_is _)) rfl (fun args w => by go_simp) (fun w u h => h_rshape w u n 1048576 _ h (by omega))
    · exact owe_move rfl (wants_all rfl) (Or.inl rfl) (opnd_op 1 22 (by kernel_rfl) rfl) rfl
    · exact owe_ext3 rfl (wants_all rfl) rfl (opnd_op 2 20 (by kernel_rfl) rfl) (Or.inl ⟨rfl, rfl⟩) rfl
    · exact owe_ext3 rfl (wants_all rfl) rfl (opnd_op 2 20 (by kernel_rfl) rfl) (Or.inr (Or.inl ⟨rfl, rfl⟩)) rfl
    · exact owe_ext3 rfl (wants_all rfl) rfl (opnd_op 2 20 (by kernel_rfl) rfl) (Or.inr (Or.inr ⟨rfl, rfl⟩)) rfl
    · exact owe_move rfl (wants_all rfl) (Or.inr rfl) (opnd_op 3 23 (by kernel_rfl) rfl) rfl
    · exact owe_move rfl (wants_all rfl) (Or.inr rfl) (opnd_op 4 24 (by kernel_rfl) rfl) rfl
    · exact owe_move rfl (wants_all rfl) (Or.inr rfl) (opnd_op 5 25 (by kernel_rfl) rfl) rfl
  intro B3 a3 W3 S3
  replace S3 : Sta w 73 [] [(8, (Is (.int .i64 (shH (zz es) : Nat)))), (9, (Is (.int .i64 (shW (zz es) : Nat)))), (10, (Is (.int .i64 (errB (reg (zz es)))))), (5, (Is (.int .i64 (shH (zz es) : Nat)))), (6, (Is (.int .i64 (shW (zz es) : Nat)))), (7, (Is (.int .i64 (errB (reg (zz es)))))), (4, (Is (.bool false))), (0, (Mx n es)), (1, (Is (.int .i64 z)))] B3 a3 W3 := S3
  refine wp_seq ?_
  refine wp_stmt_seq [.val (Is (.int .i64 (errB (reg (zz es))))),
      .val (Is (.int .i64 (errB (reg (zz es))))),
      .val (Is (.bool false)),
      .val (Is (.bool false)),
      .val (Is (.int .i64 (shH (zz es) : Nat))),
      .val (Is (.int .i64 (shH (zz es) : Nat))),
      .val (Is (.bool false)),
      .val (Is (.bool false)),
      .val (Is (.bool false)),
      .val (Is (.int .i64 (shW (zz es) : Nat))),
      .val (Is (.int .i64 (shW (zz es) : Nat))),
      .val (Is (.bool false)),
      .val (Is (.bool false)),
      .val (Is (.bool false)),
      .val (Mx n es),
      .val ((MO n es) w.heap.size),
      .val (Is (.int .i64 (mx (bitsM (zz es)) : Nat))),
      .val (Mx n es),
      .val (Is (.int .i64 (mx (bitsM (zz es)) : Nat))),
      .val (Is (.bool false)),
      .val (Is (.bool false))] [] [.inl 20, .inr 2, .inr 5, .inr 6, .inr 7, .inr 8] follows S3 rfl (by kernel_rfl) ?_ ?_
  · refine ⟨⟨⟨⟨⟨⟨⟨⟨⟨⟨⟨⟨⟨⟨⟨⟨⟨⟨⟨⟨⟨trivial, ?_⟩, ?_⟩, ?_⟩, ?_⟩, ?_⟩, ?_⟩, ?_⟩, ?_⟩, ?_⟩, ?_⟩, ?_⟩, ?_⟩, ?_⟩, ?_⟩, ?_⟩, ?_⟩, ?_⟩, ?_⟩, ?_⟩, ?_⟩, ?_⟩
    · exact owe_move rfl (wants_all rfl) (Or.inl rfl) (opnd_slot 5 7 rfl (by kernel_rfl)) rfl
    · exact owe_move rfl (wants_all rfl) (Or.inl rfl) (opnd_slot 2 10 rfl (by kernel_rfl)) rfl
    · exact owe_bin rfl (wants_all rfl) rfl (opnd_op 0 26 (by kernel_rfl) rfl) (opnd_op 1 27 (by kernel_rfl) rfl) rfl (fun ρ w h1 h2 => by exact run_neq_int_f ρ _ _ _ w _ _ rfl h1 h2)
    · exact owe_move rfl (wants_all rfl) (Or.inl rfl) (opnd_op 2 28 (by kernel_rfl) rfl) rfl
    · exact owe_move rfl (wants_if 3 29 rfl (by kernel_rfl) rfl) (Or.inl rfl) (opnd_slot 3 5 rfl (by kernel_rfl)) rfl
    · exact owe_move rfl (wants_if 3 29 rfl (by kernel_rfl) rfl) (Or.inl rfl) (opnd_slot 0 8 rfl (by kernel_rfl)) rfl
    · exact owe_bin rfl (wants_if 3 29 rfl (by kernel_rfl) rfl) rfl (opnd_op 4 30 (by kernel_rfl) rfl) (opnd_op 5 31 (by kernel_rfl) rfl) rfl (fun ρ w h1 h2 => by exact run_neq_int_f ρ _ _ _ w _ _ rfl h1 h2)
    · exact owe_pick rfl (wants_all rfl) rfl (opnd_op 3 29 (by kernel_rfl) rfl) (fun h => nomatch h) (fun _ => (opnd_op 6 32 (by kernel_rfl) rfl)) rfl
    · exact owe_move rfl (wants_all rfl) (Or.inl rfl) (opnd_op 7 33 (by kernel_rfl) rfl) rfl
    · exact owe_move rfl (wants_if 8 34 rfl (by kernel_rfl) rfl) (Or.inl rfl) (opnd_slot 4 6 rfl (by kernel_rfl)) rfl
    · exact owe_move rfl (wants_if 8 34 rfl (by kernel_rfl) rfl) (Or.inl rfl) (opnd_slot 1 9 rfl (by kernel_rfl)) rfl
    · exact owe_bin rfl (wants_if 8 34 rfl (by kernel_rfl) rfl) rfl (opnd_op 9 35 (by kernel_rfl) rfl) (opnd_op 10 36 (by kernel_rfl) rfl) rfl (fun ρ w h1 h2 => by exact run_neq_int_f ρ _ _ _ w _ _ rfl h1 h2)
    · exact owe_pick rfl (wants_all rfl) rfl (opnd_op 8 34 (by kernel_rfl) rfl) (fun h => nomatch h) (fun _ => (opnd_op 11 37 (by kernel_rfl) rfl)) rfl
    · exact owe_move rfl (wants_all rfl) (Or.inl rfl) (opnd_op 12 38 (by kernel_rfl) rfl) rfl
    · exact owe_move rfl (wants_if 13 39 rfl (by kernel_rfl) rfl) (Or.inl rfl) (opnd_slot 7 0 rfl (by kernel_rfl)) rfl
    · exact owe_callh1 rfl (wants_if 13 39 rfl (by kernel_rfl) rfl) rfl (opnd_op 14 40 (by kernel_rfl) rfl) fresh_mo rfl (fun args w => by go_simp) (fun w u h => ownm_w w u _ _ h hn hEl hEc)
    · exact owe_callh1 rfl (wants_if 13 39 rfl (by kernel_rfl) rfl) rfl ((opnd_op 15 41 (by kernel_rfl) rfl).imp (mo_mv hE)) (fresh_is _) rfl (fun args w => by go_simp) (fun w u h => mbits_w w u n 1048576 _ h (by omega) (by omega) hEz)
    · exact owe_move rfl (wants_if 13 39 rfl (by kernel_rfl) rfl) (Or.inl rfl) (opnd_slot 7 0 rfl (by kernel_rfl)) rfl
    · exact owe_callh1 rfl (wants_if 13 39 rfl (by kernel_rfl) rfl) rfl ((opnd_op 17 43 (by kernel_rfl) rfl).imp (mx_mv hE)) (fresh_is _) rfl (fun args w => by go_simp) (fun w u h => rmbits_w w u n 1048576 _ h (by omega) (by omega) hEz)
    · exact owe_bin rfl (wants_if 13 39 rfl (by kernel_rfl) rfl) rfl (opnd_op 16 42 (by kernel_rfl) rfl) (opnd_op 18 44 (by kernel_rfl) rfl) rfl (fun ρ w h1 h2 => by exact run_neq_int_f ρ _ _ _ w _ _ rfl h1 h2)
    · exact owe_pick rfl (wants_all rfl) rfl (opnd_op 13 39 (by kernel_rfl) rfl) (fun h => nomatch h) (fun _ => (opnd_op 19 45 (by kernel_rfl) rfl)) rfl
  intro B4 a4 W4 S4
  replace S4 : Sta w 73 [] [(46, (Is (.bool false))), (10, (Is (.int .i64 (errB (reg (zz es)))))), (7, (Is (.int .i64 (errB (reg (zz es)))))), (4, (Is (.bool false))), (0, (Mx n es)), (1, (Is (.int .i64 z)))] B4 a4 W4 := S4
  refine wp_cond_false (S4.bool 0 46 rfl) ?_
  refine wp_skip ?_
  refine thenN ?_
  refine wp_stmt_seq [.val (Is (.int .i64 z)),
      .val ((TWO (MN (unitN z) (unitE z)) (IS (.int .i64 (unitR z)))) w.heap.size),
      .val ((TWO (MN (unitN z) (unitE z)) (IS (.int .i64 (unitR z)))) w.heap.size),
      .val ((MN (unitN z) (unitE z)) w.heap.size),
      .val (Is (.int .i64 (unitR z))),
      .val ((MN (unitN z) (unitE z)) w.heap.size),
      .val (Is (.int .i64 (unitR z)))] [] [.inl 5, .inl 6, .inr 0, .inr 1, .inr 3, .inr 4, .inr 5] follows S4 rfl (by kernel_rfl) ?_ ?_
  · refine ⟨⟨⟨⟨⟨⟨⟨trivial, ?_⟩, ?_⟩, ?_⟩, ?_⟩, ?_⟩, ?_⟩, ?_⟩
    · exact owe_move rfl (wants_all rfl) (Or.inl rfl) (opnd_slot 5 1 rfl (by kernel_rfl)) rfl
    · exact owe_callh1 rfl (wants_all rfl) rfl (opnd_op 0 48 (by kernel_rfl) rfl) (fresh_two fresh_mn (fresh_is _)) rfl (fun args w => by go_simp) (fun w u0 h0 => by obtain rfl : u0 = _ := h0.now; exact h_unit w z)
    · exact owe_move rfl (wants_all rfl) (Or.inl rfl) (opnd_op 1 49 (by kernel_rfl) rfl) rfl
    · exact owe_ext2 rfl (wants_all rfl) rfl (opnd_op 2 47 (by kernel_rfl) rfl) (Or.inl ⟨rfl, rfl⟩) rfl
    · exact owe_ext2 rfl (wants_all rfl) rfl (opnd_op 2 47 (by kernel_rfl) rfl) (Or.inr ⟨rfl, rfl⟩) rfl
    · exact owe_move rfl (wants_all rfl) (Or.inr rfl) (opnd_op 3 50 (by kernel_rfl) rfl) rfl
    · exact owe_move rfl (wants_all rfl) (Or.inr rfl) (opnd_op 4 51 (by kernel_rfl) rfl) rfl
  intro B5 a5 W5 S5
  replace S5 : Sta w 73 [] [(11, ((MN (unitN z) (unitE z)) w.heap.size)), (7, (Is (.int .i64 (unitR z)))), (46, (Is (.bool false))), (10, (Is (.int .i64 (errB (reg (zz es)))))), (4, (Is (.bool false))), (0, (Mx n es)), (1, (Is (.int .i64 z)))] B5 a5 W5 := S5
  refine wp_stmt_seq [.val (Is (.int .i64 z)),
      .val ((TWO (MN (unitN z) (unitE z)) (IS (.int .i64 (unitR z)))) w.heap.size),
      .val ((TWO (MN (unitN z) (unitE z)) (IS (.int .i64 (unitR z)))) w.heap.size),
      .val ((MN (unitN z) (unitE z)) w.heap.size),
      .val (Is (.int .i64 (unitR z))),
      .val ((MN (unitN z) (unitE z)) w.heap.size),
      .val (Is (.int .i64 (unitR z)))] [] [.inl 5, .inl 6, .inr 0, .inr 1, .inr 2, .inr 4, .inr 5, .inr 6] follows S5 rfl (by kernel_rfl) ?_ ?_
  · refine ⟨⟨⟨⟨⟨⟨⟨trivial, ?_⟩, ?_⟩, ?_⟩, ?_⟩, ?_⟩, ?_⟩, ?_⟩
    · exact owe_move rfl (wants_all rfl) (Or.inl rfl) (opnd_slot 6 1 rfl (by kernel_rfl)) rfl
    · exact owe_callh1 rfl (wants_all rfl) rfl (opnd_op 0 53 (by kernel_rfl) rfl) (fresh_two fresh_mn (fresh_is _)) rfl (fun args w => by go_simp) (fun w u0 h0 => by obtain rfl : u0 = _ := h0.now; exact h_runit w z)
    · exact owe_move rfl (wants_all rfl) (Or.inl rfl) (opnd_op 1 54 (by kernel_rfl) rfl) rfl
    · exact owe_ext2 rfl (wants_all rfl) rfl (opnd_op 2 52 (by kernel_rfl) rfl) (Or.inl ⟨rfl, rfl⟩) rfl
    · exact owe_ext2 rfl (wants_all rfl) rfl (opnd_op 2 52 (by kernel_rfl) rfl) (Or.inr ⟨rfl, rfl⟩) rfl
    · exact owe_move rfl (wants_all rfl) (Or.inr rfl) (opnd_op 3 55 (by kernel_rfl) rfl) rfl
    · exact owe_move rfl (wants_all rfl) (Or.inr rfl) (opnd_op 4 56 (by kernel_rfl) rfl) rfl
  intro B6 a6 W6 S6
  replace S6 : Sta w 73 [] [(12, ((MN (unitN z) (unitE z)) w.heap.size)), (10, (Is (.int .i64 (unitR z)))), (11, ((MN (unitN z) (unitE z)) w.heap.size)), (7, (Is (.int .i64 (unitR z)))), (46, (Is (.bool false))), (4, (Is (.bool false))), (0, (Mx n es)), (1, (Is (.int .i64 z)))] B6 a6 W6 := S6
  refine wp_stmt_seq [.val (Is (.int .i64 (unitR z))),
      .val (Is (.int .i64 (unitR z))),
      .val (Is (.bool true)),
      .val (Is (.bool true)),
      .val ((MN (unitN z) (unitE z)) w.heap.size),
      .val ((MN (unitN z) (unitE z)) w.heap.size),
      .val (Is (.bool true)),
      .val (Is (.bool true)),
      .val (Is (.bool true)),
      .val (Mx n es),
      .val ((MO n es) w.heap.size),
      .val ((MN n (zz es)) w.heap.size),
      .val (Mx n es),
      .val ((MN n (zz es)) w.heap.size),
      .val (Is (.bool true)),
      .val (Is (.bool true)),
      .val (Is (.bool true))] [] [.inl 16, .inr 1, .inr 3, .inr 4, .inr 6, .inr 7] follows S6 rfl (by kernel_rfl) ?_ ?_
  · refine ⟨⟨⟨⟨⟨⟨⟨⟨⟨⟨⟨⟨⟨⟨⟨⟨⟨trivial, ?_⟩, ?_⟩, ?_⟩, ?_⟩, ?_⟩, ?_⟩, ?_⟩, ?_⟩, ?_⟩, ?_⟩, ?_⟩, ?_⟩, ?_⟩, ?_⟩, ?_⟩, ?_⟩, ?_⟩
    · exact owe_move rfl (wants_all rfl) (Or.inl rfl) (opnd_slot 3 7 rfl (by kernel_rfl)) rfl
    · exact owe_move rfl (wants_all rfl) (Or.inl rfl) (opnd_slot 1 10 rfl (by kernel_rfl)) rfl
    · exact owe_bin rfl (wants_all rfl) rfl (opnd_op 0 57 (by kernel_rfl) rfl) (opnd_op 1 58 (by kernel_rfl) rfl) rfl (fun ρ w h1 h2 => by exact run_eql_int_t ρ _ _ _ w _ _ rfl h1 h2)
    · exact owe_move rfl (wants_all rfl) (Or.inl rfl) (opnd_op 2 59 (by kernel_rfl) rfl) rfl
    · exact owe_move rfl (wants_if 3 60 rfl (by kernel_rfl) rfl) (Or.inl rfl) (opnd_slot 2 11 rfl (by kernel_rfl)) rfl
    · exact owe_move rfl (wants_if 3 60 rfl (by kernel_rfl) rfl) (Or.inl rfl) (opnd_slot 0 12 rfl (by kernel_rfl)) rfl
    · exact owe_callh2 rfl (wants_if 3 60 rfl (by kernel_rfl) rfl) rfl ((opnd_op 4 61 (by kernel_rfl) rfl).imp mn_mg) ((opnd_op 5 62 (by kernel_rfl) rfl).imp mn_mg) (fresh_is _) rfl (fun args w => by go_simp) (fun w u v h h' => eqm_w w u v (unitN z) _ h h')
    · exact owe_pick rfl (wants_all rfl) rfl (opnd_op 3 60 (by kernel_rfl) rfl) (fun _ => (opnd_op 6 63 (by kernel_rfl) rfl)) (fun h => nomatch h) rfl
    · exact owe_move rfl (wants_all rfl) (Or.inl rfl) (opnd_op 7 64 (by kernel_rfl) rfl) rfl
    · exact owe_move rfl (wants_if 8 65 rfl (by kernel_rfl) rfl) (Or.inl rfl) (opnd_slot 6 0 rfl (by kernel_rfl)) rfl
    · exact owe_callh1 rfl (wants_if 8 65 rfl (by kernel_rfl) rfl) rfl (opnd_op 9 66 (by kernel_rfl) rfl) fresh_mo rfl (fun args w => by go_simp) (fun w u h => ownm_w w u _ _ h hn hEl hEc)
    · exact owe_callh1 rfl (wants_if 8 65 rfl (by kernel_rfl) rfl) rfl ((opnd_op 10 67 (by kernel_rfl) rfl).imp (mo_mv hE)) fresh_mn rfl (fun args w => by go_simp) (fun w u h => mform_w w u n 1048576 _ h (by omega) (by omega) hEz)
    · exact owe_move rfl (wants_if 8 65 rfl (by kernel_rfl) rfl) (Or.inl rfl) (opnd_slot 6 0 rfl (by kernel_rfl)) rfl
    · exact owe_callh1 rfl (wants_if 8 65 rfl (by kernel_rfl) rfl) rfl ((opnd_op 12 69 (by kernel_rfl) rfl).imp (mx_mv hE)) fresh_mn rfl (fun args w => by go_simp) (fun w u h => rform_w w u n 1048576 _ h (by omega) (by omega) hEz)
    · exact owe_callh2 rfl (wants_if 8 65 rfl (by kernel_rfl) rfl) rfl ((opnd_op 11 68 (by kernel_rfl) rfl).imp mn_mg) ((opnd_op 13 70 (by kernel_rfl) rfl).imp mn_mg) (fresh_is _) rfl (fun args w => by go_simp) (fun w u v h h' => eqm_w w u v n _ h h')
    · exact owe_pick rfl (wants_all rfl) rfl (opnd_op 8 65 (by kernel_rfl) rfl) (fun _ => (opnd_op 14 71 (by kernel_rfl) rfl)) (fun h => nomatch h) rfl
    · exact owe_move rfl (wants_all rfl) (Or.inr rfl) (opnd_op 15 72 (by kernel_rfl) rfl) rfl
  intro B7 a7 W7 S7
  replace S7 : Sta w 73 [] [(4, (Is (.bool true))), (10, (Is (.int .i64 (unitR z)))), (7, (Is (.int .i64 (unitR z)))), (46, (Is (.bool false))), (0, (Mx n es)), (1, (Is (.int .i64 z)))] B7 a7 W7 := S7
  refine wp_ret ?_
  exact end_one S7 rfl (res_tmp S7 0 4 rfl)

theorem matshapes_walk (w : World) (p0 : Option Addr) (n c0 : Nat) (rs : List Rw) (z : Int) (h : Ms w p0 n c0 rs) (b0 : c0 ≤ 1048576) (b0' : ∀ (i : Nat) (r : Rw), rs[i]? = some r → r.c ≤ 1048576 ∧ ∀ (j : Nat) (e : El), r.es[j]? = some e → e.c ≤ 1048576) (b1 : -9223372036854775808 ≤ z ∧ z ≤ 9223372036854775807) :
    Calls Try.prog 3 #[.slice p0 n c0, .int .i64 z] w fun e w' => e = .returned (.bool true) ∧ Below w.heap.size w w' := by
  have q0 := h.cap
  obtain ⟨x1, x2, x3⟩ := ms_n h b0'
  refine (matshapes_w w _ n _ z (ms_hs h) (by omega) x1 (fun i es he j e hj => Nat.le_trans (x2 i es he j e hj) (by decide)) x3).mono ?_
  rintro e w' ⟨v, rfl, hb, hv⟩
  obtain rfl : v = _ := hv
  exact ⟨rfl, hb⟩
end Go.Proofs.Ytiehipnaklkhjaa
