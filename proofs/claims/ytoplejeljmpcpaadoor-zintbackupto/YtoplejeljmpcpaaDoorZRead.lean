/-
  zint.Read, and what it calls.
-/
import Derived.Test.YtoplejeljmpcpaaDoorZReadMath
import Derived.Test.YtoplejeljmpcpaaDoorRTwo
import Derived.Test.YtoplejeljmpcpaaDoorJoins
import Derived.Test.YtoplejeljmpcpaaDoorTabs
namespace Go.Proofs.YtoplejeljmpcpaaDoor
open Go Go.RowKit Nt
set_option linter.unusedSimpArgs false
set_option linter.unusedVariables false
set_option maxRecDepth 20000


set_option maxHeartbeats 8000000 in
theorem worth_c (w : World) (k : Nat) (h : k ≤ 9) : Calls Tryd.prog 53 #[.int .i64 (k : Nat)] w fun e w' => e = .returned (.int .u32 (10 ^ k : Nat)) ∧ Below w.heap.size w w' := by
  match k, h with
  | 0, _ =>
    go_enter Tryd.func53, Tryd.ntmps53
    go_wp2_with fail
    go_ret
    exact ⟨rfl, (Below.refl _ _).alloc (Nat.le_refl _) _⟩
  | 1, _ =>
    go_enter Tryd.func53, Tryd.ntmps53
    go_wp2_with fail
    go_ret
    exact ⟨rfl, (Below.refl _ _).alloc (Nat.le_refl _) _⟩
  | 2, _ =>
    go_enter Tryd.func53, Tryd.ntmps53
    go_wp2_with fail
    go_ret
    exact ⟨rfl, (Below.refl _ _).alloc (Nat.le_refl _) _⟩
  | 3, _ =>
    go_enter Tryd.func53, Tryd.ntmps53
    go_wp2_with fail
    go_ret
    exact ⟨rfl, (Below.refl _ _).alloc (Nat.le_refl _) _⟩
  | 4, _ =>
    go_enter Tryd.func53, Tryd.ntmps53
    go_wp2_with fail
    go_ret
    exact ⟨rfl, (Below.refl _ _).alloc (Nat.le_refl _) _⟩
  | 5, _ =>
    go_enter Tryd.func53, Tryd.ntmps53
    go_wp2_with fail
    go_ret
    exact ⟨rfl, (Below.refl _ _).alloc (Nat.le_refl _) _⟩
  | 6, _ =>
    go_enter Tryd.func53, Tryd.ntmps53
    go_wp2_with fail
    go_ret
    exact ⟨rfl, (Below.refl _ _).alloc (Nat.le_refl _) _⟩
  | 7, _ =>
    go_enter Tryd.func53, Tryd.ntmps53
    go_wp2_with fail
    go_ret
    exact ⟨rfl, (Below.refl _ _).alloc (Nat.le_refl _) _⟩
  | 8, _ =>
    go_enter Tryd.func53, Tryd.ntmps53
    go_wp2_with fail
    go_ret
    exact ⟨rfl, (Below.refl _ _).alloc (Nat.le_refl _) _⟩
  | 9, _ =>
    go_enter Tryd.func53, Tryd.ntmps53
    go_wp2_with fail
    go_ret
    exact ⟨rfl, (Below.refl _ _).alloc (Nat.le_refl _) _⟩
theorem g_worth {k : Nat} (h : k ≤ 9) : ∀ w u, Is (.int .i64 (k : Nat)) u w → Calls Tryd.prog 53 #[u] w (Gives (IS (.int .u32 (10 ^ k : Nat))) w) := by
  rintro w u rfl
  refine (worth_c w k h).mono ?_
  rintro e w' ⟨rfl, hb⟩
  exact ⟨_, rfl, hb, rfl⟩
theorem take_one {l : List UInt8} (h : 0 < l.length) : l.take 1 = [l.getD 0 0] := by
  cases l with
  | nil => simp at h
  | cons a r => rfl
theorem take_is {l : List UInt8} (h : isN l = true) : l.take ([45] : List UInt8).length = [45] := by
  obtain ⟨h1, h2⟩ := isN_t h
  show l.take 1 = [45]
  rw [take_one h1]
  have : l.getD 0 0 = 45 := UInt8.toNat_inj.1 h2
  rw [this]
theorem take_no {l : List UInt8} (h0 : 0 < l.length) (h : isN l = false) : l.take ([45] : List UInt8).length ≠ [45] := by
  intro e
  have e1 : l.take 1 = [45] := e
  rw [take_one h0] at e1
  simp only [List.cons.injEq, and_true] at e1
  exact isN_plain h (by unfold bt; rw [e1]; rfl)
theorem run_isN (ρ : Operand → Value) (o : Oper) (x y : Operand) (w : World) (l : List UInt8) (h0 : 0 < l.length) (h1 : ρ x = .int .u8 ((bt l 0 : Nat) : Int)) (h2 : ρ y = .int .u8 45) : (execOp ρ { o with op := .binOp .eql 5 x y 5 }).run Tryd.prog w = .ok (.value (.bool (isN l))) w := by
  cases e : isN l with
  | true => exact run_eql_u8_t ρ o x y w _ _ (by have := (isN_t e).2; omega) h1 h2
  | false => exact run_eql_u8_f ρ o x y w _ _ (by have := isN_plain e; omega) h1 h2
theorem zn_zero3 {at' e : Value} {w : World} {f : FuncId} {args : Array Value} (h : Calls Tryd.prog f args w (Gives (THREE (IS (.agg #[.bool false, .slice none 0 0])) (IS at') (IS e)) w)) : Calls Tryd.prog f args w (Gives (THREE (ZN 0) (IS at') (IS e)) w) := by
  refine h.mono ?_
  rintro r w' ⟨v, rfl, hb, x, y, z, rfl, hx, hy, hz⟩
  exact ⟨_, rfl, hb, x, y, z, rfl, ⟨none, 0, hx, Sl.none _, fun b o e => by cases e⟩, hy, hz⟩

set_option maxHeartbeats 2000000 in
theorem goesOn_w (w : World) (l : List UInt8) (i : Nat) (hi : i < l.length) (r : Bool) (hr : goes l i = r) :
    Calls Tryd.prog 26 #[str l, .int .i64 (i : Nat)] w (Gives (IS (.bool r)) w) := by
  refine calls_sta (sl := [(0, (Is (str l))), (1, (Is (.int .i64 (i : Nat))))]) Tryd.func26 rfl Tryd.ntmps26 (by simp) (args_cons rfl (is_has _) (args_cons rfl (is_has _) args_nil)) ?_
  intro a0 S0
  refine wp_stmt_seq [.val (Is (.bool false))] [] [.inl 0, .inr 0, .inr 1] follows S0 rfl (by kernel_rfl) ?_ ?_
  · refine ⟨trivial, ?_⟩
    · exact owe_move rfl (wants_all rfl) (Or.inr rfl) (opnd_const _) rfl
  intro B1 a1 W1 S1
  replace S1 : Sta w 45 [] [(4, (Is (.bool false))), (0, (Is (str l))), (1, (Is (.int .i64 (i : Nat))))] B1 a1 W1 := S1
  rcases (show (48 ≤ bt l i ∧ bt l i ≤ 57) ∨ (48 ≤ bt l i ∧ 57 < bt l i) ∨ (bt l i < 48) from by omega) with ⟨hb1, hb2⟩ | ⟨hb1, hb2⟩ | hb1
  · skip
    have hd : dgB (bt l i) = true := dgB_iff.2 ⟨hb1, hb2⟩
    refine wp_stmt_seq [.val (Is (str l)),
      .val (Is (.int .i64 (i : Nat))),
      .val (Is (.int .u8 ((bt l i : Nat) : Int))),
      .val (Is (.bool true)),
      .val (Is (.bool true)),
      .val (Is (str l)),
      .val (Is (.int .i64 (i : Nat))),
      .val (Is (.int .u8 ((bt l i : Nat) : Int))),
      .val (Is (.bool true)),
      .val (Is (.bool true)),
      .val (Is (.bool true))] [] [.inl 10, .inr 0, .inr 1, .inr 2] follows S1 rfl (by kernel_rfl) ?_ ?_
    · refine ⟨⟨⟨⟨⟨⟨⟨⟨⟨⟨⟨trivial, ?_⟩, ?_⟩, ?_⟩, ?_⟩, ?_⟩, ?_⟩, ?_⟩, ?_⟩, ?_⟩, ?_⟩, ?_⟩
      · exact owe_move rfl (wants_all rfl) (Or.inl rfl) (opnd_slot 1 0 rfl (by kernel_rfl)) rfl
      · exact owe_move rfl (wants_all rfl) (Or.inl rfl) (opnd_slot 2 1 rfl (by kernel_rfl)) rfl
      · exact owe_two rfl (wants_all rfl) rfl (opnd_op 0 6 (by kernel_rfl) rfl) (opnd_op 1 7 (by kernel_rfl) rfl) rfl (fun ρ w h1 h2 => run_idx ρ _ _ _ w l i (by omega) h1 h2)
      · exact owe_bin rfl (wants_all rfl) rfl (opnd_const _) (opnd_op 2 8 (by kernel_rfl) rfl) rfl (fun ρ w h1 h2 => by exact run_leq_u8_t ρ _ _ _ w _ _ (by omega) h1 h2)
      · exact owe_move rfl (wants_all rfl) (Or.inl rfl) (opnd_op 3 9 (by kernel_rfl) rfl) rfl
      · exact owe_move rfl (wants_if 4 10 rfl (by kernel_rfl) rfl) (Or.inl rfl) (opnd_slot 1 0 rfl (by kernel_rfl)) rfl
      · exact owe_move rfl (wants_if 4 10 rfl (by kernel_rfl) rfl) (Or.inl rfl) (opnd_slot 2 1 rfl (by kernel_rfl)) rfl
      · exact owe_two rfl (wants_if 4 10 rfl (by kernel_rfl) rfl) rfl (opnd_op 5 11 (by kernel_rfl) rfl) (opnd_op 6 12 (by kernel_rfl) rfl) rfl (fun ρ w h1 h2 => run_idx ρ _ _ _ w l i (by omega) h1 h2)
      · exact owe_bin rfl (wants_if 4 10 rfl (by kernel_rfl) rfl) rfl (opnd_op 7 13 (by kernel_rfl) rfl) (opnd_const _) rfl (fun ρ w h1 h2 => by exact run_leq_u8_t ρ _ _ _ w _ _ (by omega) h1 h2)
      · exact owe_pick rfl (wants_all rfl) rfl (opnd_op 4 10 (by kernel_rfl) rfl) (fun _ => (opnd_op 8 14 (by kernel_rfl) rfl)) (fun h => nomatch h) rfl
      · exact owe_move rfl (wants_all rfl) (Or.inr rfl) (opnd_op 9 15 (by kernel_rfl) rfl) rfl
    intro B2 a2 W2 S2
    replace S2 : Sta w 45 [] [(5, (Is (.bool true))), (4, (Is (.bool false))), (0, (Is (str l))), (1, (Is (.int .i64 (i : Nat))))] B2 a2 W2 := S2
    rcases Nat.eq_zero_or_pos i with hi0 | hi0
    · skip
      have hbi : bt l i = bt l 0 := by rw [hi0]
      obtain rfl : r = true := by rw [← hr, goes_0 hi0 hd, Bool.true_or]
      refine wp_seq ?_
      refine wp_block ?_
      refine wp_stmt_seq [.val (Is (.int .i64 (i : Nat))),
      .val (Is (.bool true)),
      .val (Is (.bool true))] [] [.inl 2, .inr 0, .inr 1, .inr 2, .inr 3] follows S2 rfl (by kernel_rfl) ?_ ?_
      · refine ⟨⟨⟨trivial, ?_⟩, ?_⟩, ?_⟩
        · exact owe_move rfl (wants_all rfl) (Or.inl rfl) (opnd_slot 3 1 rfl (by kernel_rfl)) rfl
        · exact owe_bin rfl (wants_all rfl) rfl (opnd_op 0 17 (by kernel_rfl) rfl) (opnd_const _) rfl (fun ρ w h1 h2 => by exact run_eql_int_t ρ _ _ _ w _ _ (by omega) h1 h2)
        · exact owe_move rfl (wants_all rfl) (Or.inr rfl) (opnd_op 1 18 (by kernel_rfl) rfl) rfl
      intro B3 a3 W3 S3
      replace S3 : Sta w 45 [] [(16, (Is (.bool true))), (5, (Is (.bool true))), (4, (Is (.bool false))), (0, (Is (str l))), (1, (Is (.int .i64 (i : Nat))))] B3 a3 W3 := S3
      refine wp_cond_true (S3.bool 0 16 rfl) ?_
      refine wp_stmt_seq [.val (Is (.bool true)),
      .val (Is (.bool true)),
      .off,
      .off,
      .off,
      .val (Is (.bool true)),
      .val (Is (.bool true))] [] [.inl 6, .inr 0, .inr 1, .inr 3, .inr 4] follows S3 rfl (by kernel_rfl) ?_ ?_
      · refine ⟨⟨⟨⟨⟨⟨⟨trivial, ?_⟩, ?_⟩, ?_⟩, ?_⟩, ?_⟩, ?_⟩, ?_⟩
        · exact owe_move rfl (wants_all rfl) (Or.inl rfl) (opnd_slot 1 5 rfl (by kernel_rfl)) rfl
        · exact owe_move rfl (wants_all rfl) (Or.inl rfl) (opnd_op 0 19 (by kernel_rfl) rfl) rfl
        · exact owe_off 1 20 rfl rfl rfl (by kernel_rfl) rfl (by decide)
        · exact owe_off 1 20 rfl rfl rfl (by kernel_rfl) rfl (by decide)
        · exact owe_off 1 20 rfl rfl rfl (by kernel_rfl) rfl (by decide)
        · exact owe_pick rfl (wants_all rfl) rfl (opnd_op 1 20 (by kernel_rfl) rfl) (fun _ => (opnd_const _)) (fun h => nomatch h) rfl
        · exact owe_move rfl (wants_all rfl) (Or.inr rfl) (opnd_op 5 24 (by kernel_rfl) rfl) rfl
      intro B4 a4 W4 S4
      replace S4 : Sta w 45 [] [(4, (Is (.bool true))), (16, (Is (.bool true))), (5, (Is (.bool true))), (0, (Is (str l))), (1, (Is (.int .i64 (i : Nat))))] B4 a4 W4 := S4
      refine wp_ret ?_
      refine inBlkR ?_
      refine thenR ?_
      exact end_one S4 rfl (res_tmp S4 0 4 rfl)
    · skip
      have hi1 : i ≠ 0 := by omega
      refine wp_seq ?_
      refine wp_block ?_
      refine wp_stmt_seq [.val (Is (.int .i64 (i : Nat))),
      .val (Is (.bool false)),
      .val (Is (.bool false))] [] [.inl 2, .inr 0, .inr 1, .inr 2, .inr 3] follows S2 rfl (by kernel_rfl) ?_ ?_
      · refine ⟨⟨⟨trivial, ?_⟩, ?_⟩, ?_⟩
        · exact owe_move rfl (wants_all rfl) (Or.inl rfl) (opnd_slot 3 1 rfl (by kernel_rfl)) rfl
        · exact owe_bin rfl (wants_all rfl) rfl (opnd_op 0 17 (by kernel_rfl) rfl) (opnd_const _) rfl (fun ρ w h1 h2 => by exact run_eql_int_f ρ _ _ _ w _ _ (by omega) h1 h2)
        · exact owe_move rfl (wants_all rfl) (Or.inr rfl) (opnd_op 1 18 (by kernel_rfl) rfl) rfl
      intro B3 a3 W3 S3
      replace S3 : Sta w 45 [] [(16, (Is (.bool false))), (5, (Is (.bool true))), (4, (Is (.bool false))), (0, (Is (str l))), (1, (Is (.int .i64 (i : Nat))))] B3 a3 W3 := S3
      refine wp_cond_false (S3.bool 0 16 rfl) ?_
      by_cases h48 : bt l 0 = 48
      · skip
        obtain rfl : r = false := by rw [← hr, goes_48 hi1 h48]
        refine wp_stmt_seq [.val (Is (str l)),
      .val (Is (.int .u8 ((bt l 0 : Nat) : Int))),
      .val (Is (.bool true)),
      .val (Is (.bool true))] [] [.inl 3, .inr 0, .inr 1, .inr 2, .inr 3, .inr 4] follows S3 rfl (by kernel_rfl) ?_ ?_
        · refine ⟨⟨⟨⟨trivial, ?_⟩, ?_⟩, ?_⟩, ?_⟩
          · exact owe_move rfl (wants_all rfl) (Or.inl rfl) (opnd_slot 3 0 rfl (by kernel_rfl)) rfl
          · exact owe_two rfl (wants_all rfl) rfl (opnd_op 0 26 (by kernel_rfl) rfl) (opnd_const _) rfl (fun ρ w h1 h2 => run_idx ρ _ _ _ w l 0 (by omega) h1 h2)
          · exact owe_bin rfl (wants_all rfl) rfl (opnd_op 1 27 (by kernel_rfl) rfl) (opnd_const _) rfl (fun ρ w h1 h2 => by exact run_eql_u8_t ρ _ _ _ w _ _ (by omega) h1 h2)
          · exact owe_move rfl (wants_all rfl) (Or.inr rfl) (opnd_op 2 28 (by kernel_rfl) rfl) rfl
        intro B4 a4 W4 S4
        replace S4 : Sta w 45 [] [(25, (Is (.bool true))), (16, (Is (.bool false))), (5, (Is (.bool true))), (4, (Is (.bool false))), (0, (Is (str l))), (1, (Is (.int .i64 (i : Nat))))] B4 a4 W4 := S4
        refine wp_cond_true (S4.bool 0 25 rfl) ?_
        refine wp_stmt_seq [.val (Is (.bool false))] [] [.inl 0, .inr 0, .inr 1, .inr 2, .inr 4, .inr 5] follows S4 rfl (by kernel_rfl) ?_ ?_
        · refine ⟨trivial, ?_⟩
          · exact owe_move rfl (wants_all rfl) (Or.inr rfl) (opnd_const _) rfl
        intro B5 a5 W5 S5
        replace S5 : Sta w 45 [] [(4, (Is (.bool false))), (25, (Is (.bool true))), (16, (Is (.bool false))), (5, (Is (.bool true))), (0, (Is (str l))), (1, (Is (.int .i64 (i : Nat))))] B5 a5 W5 := S5
        refine wp_ret ?_
        refine inBlkR ?_
        refine thenR ?_
        exact end_one S5 rfl (res_tmp S5 0 4 rfl)
      · skip
        refine wp_stmt_seq [.val (Is (str l)),
      .val (Is (.int .u8 ((bt l 0 : Nat) : Int))),
      .val (Is (.bool false)),
      .val (Is (.bool false))] [] [.inl 3, .inr 0, .inr 1, .inr 2, .inr 3, .inr 4] follows S3 rfl (by kernel_rfl) ?_ ?_
        · refine ⟨⟨⟨⟨trivial, ?_⟩, ?_⟩, ?_⟩, ?_⟩
          · exact owe_move rfl (wants_all rfl) (Or.inl rfl) (opnd_slot 3 0 rfl (by kernel_rfl)) rfl
          · exact owe_two rfl (wants_all rfl) rfl (opnd_op 0 26 (by kernel_rfl) rfl) (opnd_const _) rfl (fun ρ w h1 h2 => run_idx ρ _ _ _ w l 0 (by omega) h1 h2)
          · exact owe_bin rfl (wants_all rfl) rfl (opnd_op 1 27 (by kernel_rfl) rfl) (opnd_const _) rfl (fun ρ w h1 h2 => by exact run_eql_u8_f ρ _ _ _ w _ _ (by omega) h1 h2)
          · exact owe_move rfl (wants_all rfl) (Or.inr rfl) (opnd_op 2 28 (by kernel_rfl) rfl) rfl
        intro B4 a4 W4 S4
        replace S4 : Sta w 45 [] [(25, (Is (.bool false))), (16, (Is (.bool false))), (5, (Is (.bool true))), (4, (Is (.bool false))), (0, (Is (str l))), (1, (Is (.int .i64 (i : Nat))))] B4 a4 W4 := S4
        refine wp_cond_false (S4.bool 0 25 rfl) ?_
        rcases (show (i = 1 ∧ bt l 0 = 45) ∨ (i = 1 ∧ bt l 0 ≠ 45) ∨ i ≠ 1 from by omega) with ⟨h1i, h45⟩ | ⟨h1i, h45⟩ | h1i
        · skip
          skip
          refine wp_stmt_seq [.val (Is (.int .i64 (i : Nat))),
      .val (Is (.bool true)),
      .val (Is (.bool true)),
      .val (Is (str l)),
      .val (Is (.int .u8 ((bt l 0 : Nat) : Int))),
      .val (Is (.bool true)),
      .val (Is (.bool true)),
      .val (Is (.bool true))] [] [.inl 7, .inr 0, .inr 1, .inr 2, .inr 3, .inr 4, .inr 5] follows S4 rfl (by kernel_rfl) ?_ ?_
          · refine ⟨⟨⟨⟨⟨⟨⟨⟨trivial, ?_⟩, ?_⟩, ?_⟩, ?_⟩, ?_⟩, ?_⟩, ?_⟩, ?_⟩
            · exact owe_move rfl (wants_all rfl) (Or.inl rfl) (opnd_slot 5 1 rfl (by kernel_rfl)) rfl
            · exact owe_bin rfl (wants_all rfl) rfl (opnd_op 0 30 (by kernel_rfl) rfl) (opnd_const _) rfl (fun ρ w h1 h2 => by exact run_eql_int_t ρ _ _ _ w _ _ (by omega) h1 h2)
            · exact owe_move rfl (wants_all rfl) (Or.inl rfl) (opnd_op 1 31 (by kernel_rfl) rfl) rfl
            · exact owe_move rfl (wants_if 2 32 rfl (by kernel_rfl) rfl) (Or.inl rfl) (opnd_slot 4 0 rfl (by kernel_rfl)) rfl
            · exact owe_two rfl (wants_if 2 32 rfl (by kernel_rfl) rfl) rfl (opnd_op 3 33 (by kernel_rfl) rfl) (opnd_const _) rfl (fun ρ w h1 h2 => run_idx ρ _ _ _ w l 0 (by omega) h1 h2)
            · exact owe_bin rfl (wants_if 2 32 rfl (by kernel_rfl) rfl) rfl (opnd_op 4 34 (by kernel_rfl) rfl) (opnd_const _) rfl (fun ρ w h1 h2 => by exact run_eql_u8_t ρ _ _ _ w _ _ (by omega) h1 h2)
            · exact owe_pick rfl (wants_all rfl) rfl (opnd_op 2 32 (by kernel_rfl) rfl) (fun _ => (opnd_op 5 35 (by kernel_rfl) rfl)) (fun h => nomatch h) rfl
            · exact owe_move rfl (wants_all rfl) (Or.inr rfl) (opnd_op 6 36 (by kernel_rfl) rfl) rfl
          intro B5 a5 W5 S5
          replace S5 : Sta w 45 [] [(29, (Is (.bool true))), (25, (Is (.bool false))), (16, (Is (.bool false))), (5, (Is (.bool true))), (4, (Is (.bool false))), (0, (Is (str l))), (1, (Is (.int .i64 (i : Nat))))] B5 a5 W5 := S5
          refine wp_cond_true (S5.bool 0 29 rfl) ?_
          by_cases h4 : bt l i = 48
          · skip
            obtain rfl : r = false := by rw [← hr, goes_1 h1i h48 h45 hd]; simp [h4]
            refine wp_stmt_seq [.val (Is (.bool true)),
      .val (Is (.bool true)),
      .val (Is (str l)),
      .val (Is (.int .i64 (i : Nat))),
      .val (Is (.int .u8 ((bt l i : Nat) : Int))),
      .val (Is (.bool false)),
      .val (Is (.bool false)),
      .val (Is (.bool false))] [] [.inl 7, .inr 0, .inr 1, .inr 2, .inr 3, .inr 5, .inr 6] follows S5 rfl (by kernel_rfl) ?_ ?_
            · refine ⟨⟨⟨⟨⟨⟨⟨⟨trivial, ?_⟩, ?_⟩, ?_⟩, ?_⟩, ?_⟩, ?_⟩, ?_⟩, ?_⟩
              · exact owe_move rfl (wants_all rfl) (Or.inl rfl) (opnd_slot 3 5 rfl (by kernel_rfl)) rfl
              · exact owe_move rfl (wants_all rfl) (Or.inl rfl) (opnd_op 0 37 (by kernel_rfl) rfl) rfl
              · exact owe_move rfl (wants_if 1 38 rfl (by kernel_rfl) rfl) (Or.inl rfl) (opnd_slot 5 0 rfl (by kernel_rfl)) rfl
              · exact owe_move rfl (wants_if 1 38 rfl (by kernel_rfl) rfl) (Or.inl rfl) (opnd_slot 6 1 rfl (by kernel_rfl)) rfl
              · exact owe_two rfl (wants_if 1 38 rfl (by kernel_rfl) rfl) rfl (opnd_op 2 39 (by kernel_rfl) rfl) (opnd_op 3 40 (by kernel_rfl) rfl) rfl (fun ρ w h1 h2 => run_idx ρ _ _ _ w l i (by omega) h1 h2)
              · exact owe_bin rfl (wants_if 1 38 rfl (by kernel_rfl) rfl) rfl (opnd_op 4 41 (by kernel_rfl) rfl) (opnd_const _) rfl (fun ρ w h1 h2 => by exact run_neq_u8_f ρ _ _ _ w _ _ (by omega) h1 h2)
              · exact owe_pick rfl (wants_all rfl) rfl (opnd_op 1 38 (by kernel_rfl) rfl) (fun _ => (opnd_op 5 42 (by kernel_rfl) rfl)) (fun h => nomatch h) rfl
              · exact owe_move rfl (wants_all rfl) (Or.inr rfl) (opnd_op 6 43 (by kernel_rfl) rfl) rfl
            intro B6 a6 W6 S6
            replace S6 : Sta w 45 [] [(4, (Is (.bool false))), (29, (Is (.bool true))), (25, (Is (.bool false))), (16, (Is (.bool false))), (5, (Is (.bool true))), (0, (Is (str l))), (1, (Is (.int .i64 (i : Nat))))] B6 a6 W6 := S6
            refine wp_ret ?_
            refine inBlkR ?_
            refine thenR ?_
            exact end_one S6 rfl (res_tmp S6 0 4 rfl)
          · skip
            obtain rfl : r = true := by rw [← hr, goes_1 h1i h48 h45 hd]; simp [h4]
            refine wp_stmt_seq [.val (Is (.bool true)),
      .val (Is (.bool true)),
      .val (Is (str l)),
      .val (Is (.int .i64 (i : Nat))),
      .val (Is (.int .u8 ((bt l i : Nat) : Int))),
      .val (Is (.bool true)),
      .val (Is (.bool true)),
      .val (Is (.bool true))] [] [.inl 7, .inr 0, .inr 1, .inr 2, .inr 3, .inr 5, .inr 6] follows S5 rfl (by kernel_rfl) ?_ ?_
            · refine ⟨⟨⟨⟨⟨⟨⟨⟨trivial, ?_⟩, ?_⟩, ?_⟩, ?_⟩, ?_⟩, ?_⟩, ?_⟩, ?_⟩
              · exact owe_move rfl (wants_all rfl) (Or.inl rfl) (opnd_slot 3 5 rfl (by kernel_rfl)) rfl
              · exact owe_move rfl (wants_all rfl) (Or.inl rfl) (opnd_op 0 37 (by kernel_rfl) rfl) rfl
              · exact owe_move rfl (wants_if 1 38 rfl (by kernel_rfl) rfl) (Or.inl rfl) (opnd_slot 5 0 rfl (by kernel_rfl)) rfl
              · exact owe_move rfl (wants_if 1 38 rfl (by kernel_rfl) rfl) (Or.inl rfl) (opnd_slot 6 1 rfl (by kernel_rfl)) rfl
              · exact owe_two rfl (wants_if 1 38 rfl (by kernel_rfl) rfl) rfl (opnd_op 2 39 (by kernel_rfl) rfl) (opnd_op 3 40 (by kernel_rfl) rfl) rfl (fun ρ w h1 h2 => run_idx ρ _ _ _ w l i (by omega) h1 h2)
              · exact owe_bin rfl (wants_if 1 38 rfl (by kernel_rfl) rfl) rfl (opnd_op 4 41 (by kernel_rfl) rfl) (opnd_const _) rfl (fun ρ w h1 h2 => by exact run_neq_u8_t ρ _ _ _ w _ _ (by omega) h1 h2)
              · exact owe_pick rfl (wants_all rfl) rfl (opnd_op 1 38 (by kernel_rfl) rfl) (fun _ => (opnd_op 5 42 (by kernel_rfl) rfl)) (fun h => nomatch h) rfl
              · exact owe_move rfl (wants_all rfl) (Or.inr rfl) (opnd_op 6 43 (by kernel_rfl) rfl) rfl
            intro B6 a6 W6 S6
            replace S6 : Sta w 45 [] [(4, (Is (.bool true))), (29, (Is (.bool true))), (25, (Is (.bool false))), (16, (Is (.bool false))), (5, (Is (.bool true))), (0, (Is (str l))), (1, (Is (.int .i64 (i : Nat))))] B6 a6 W6 := S6
            refine wp_ret ?_
            refine inBlkR ?_
            refine thenR ?_
            exact end_one S6 rfl (res_tmp S6 0 4 rfl)
        · skip
          obtain rfl : r = true := by rw [← hr, goes_n hi1 h48 (by omega) hd]
          refine wp_stmt_seq [.val (Is (.int .i64 (i : Nat))),
      .val (Is (.bool true)),
      .val (Is (.bool true)),
      .val (Is (str l)),
      .val (Is (.int .u8 ((bt l 0 : Nat) : Int))),
      .val (Is (.bool false)),
      .val (Is (.bool false)),
      .val (Is (.bool false))] [] [.inl 7, .inr 0, .inr 1, .inr 2, .inr 3, .inr 4, .inr 5] follows S4 rfl (by kernel_rfl) ?_ ?_
          · refine ⟨⟨⟨⟨⟨⟨⟨⟨trivial, ?_⟩, ?_⟩, ?_⟩, ?_⟩, ?_⟩, ?_⟩, ?_⟩, ?_⟩
            · exact owe_move rfl (wants_all rfl) (Or.inl rfl) (opnd_slot 5 1 rfl (by kernel_rfl)) rfl
            · exact owe_bin rfl (wants_all rfl) rfl (opnd_op 0 30 (by kernel_rfl) rfl) (opnd_const _) rfl (fun ρ w h1 h2 => by exact run_eql_int_t ρ _ _ _ w _ _ (by omega) h1 h2)
            · exact owe_move rfl (wants_all rfl) (Or.inl rfl) (opnd_op 1 31 (by kernel_rfl) rfl) rfl
            · exact owe_move rfl (wants_if 2 32 rfl (by kernel_rfl) rfl) (Or.inl rfl) (opnd_slot 4 0 rfl (by kernel_rfl)) rfl
            · exact owe_two rfl (wants_if 2 32 rfl (by kernel_rfl) rfl) rfl (opnd_op 3 33 (by kernel_rfl) rfl) (opnd_const _) rfl (fun ρ w h1 h2 => run_idx ρ _ _ _ w l 0 (by omega) h1 h2)
            · exact owe_bin rfl (wants_if 2 32 rfl (by kernel_rfl) rfl) rfl (opnd_op 4 34 (by kernel_rfl) rfl) (opnd_const _) rfl (fun ρ w h1 h2 => by exact run_eql_u8_f ρ _ _ _ w _ _ (by omega) h1 h2)
            · exact owe_pick rfl (wants_all rfl) rfl (opnd_op 2 32 (by kernel_rfl) rfl) (fun _ => (opnd_op 5 35 (by kernel_rfl) rfl)) (fun h => nomatch h) rfl
            · exact owe_move rfl (wants_all rfl) (Or.inr rfl) (opnd_op 6 36 (by kernel_rfl) rfl) rfl
          intro B5 a5 W5 S5
          replace S5 : Sta w 45 [] [(29, (Is (.bool false))), (25, (Is (.bool false))), (16, (Is (.bool false))), (5, (Is (.bool true))), (4, (Is (.bool false))), (0, (Is (str l))), (1, (Is (.int .i64 (i : Nat))))] B5 a5 W5 := S5
          refine wp_cond_false (S5.bool 0 29 rfl) ?_
          refine wp_skip ?_
          refine inBlkN ?_
          refine thenN ?_
          refine wp_stmt_seq [.val (Is (.bool true)),
      .val (Is (.bool true))] [] [.inl 1, .inr 0, .inr 1, .inr 2, .inr 3, .inr 5, .inr 6] follows S5 rfl (by kernel_rfl) ?_ ?_
          · refine ⟨⟨trivial, ?_⟩, ?_⟩
            · exact owe_move rfl (wants_all rfl) (Or.inl rfl) (opnd_slot 3 5 rfl (by kernel_rfl)) rfl
            · exact owe_move rfl (wants_all rfl) (Or.inr rfl) (opnd_op 0 44 (by kernel_rfl) rfl) rfl
          intro B6 a6 W6 S6
          replace S6 : Sta w 45 [] [(4, (Is (.bool true))), (29, (Is (.bool false))), (25, (Is (.bool false))), (16, (Is (.bool false))), (5, (Is (.bool true))), (0, (Is (str l))), (1, (Is (.int .i64 (i : Nat))))] B6 a6 W6 := S6
          refine wp_ret ?_
          exact end_one S6 rfl (res_tmp S6 0 4 rfl)
        · skip
          obtain rfl : r = true := by rw [← hr, goes_n hi1 h48 (by omega) hd]
          refine wp_stmt_seq [.val (Is (.int .i64 (i : Nat))),
      .val (Is (.bool false)),
      .val (Is (.bool false)),
      .off,
      .off,
      .off,
      .val (Is (.bool false)),
      .val (Is (.bool false))] [] [.inl 7, .inr 0, .inr 1, .inr 2, .inr 3, .inr 4, .inr 5] follows S4 rfl (by kernel_rfl) ?_ ?_
          · refine ⟨⟨⟨⟨⟨⟨⟨⟨trivial, ?_⟩, ?_⟩, ?_⟩, ?_⟩, ?_⟩, ?_⟩, ?_⟩, ?_⟩
            · exact owe_move rfl (wants_all rfl) (Or.inl rfl) (opnd_slot 5 1 rfl (by kernel_rfl)) rfl
            · exact owe_bin rfl (wants_all rfl) rfl (opnd_op 0 30 (by kernel_rfl) rfl) (opnd_const _) rfl (fun ρ w h1 h2 => by exact run_eql_int_f ρ _ _ _ w _ _ (by omega) h1 h2)
            · exact owe_move rfl (wants_all rfl) (Or.inl rfl) (opnd_op 1 31 (by kernel_rfl) rfl) rfl
            · exact owe_off 2 32 rfl rfl rfl (by kernel_rfl) rfl (by decide)
            · exact owe_off 2 32 rfl rfl rfl (by kernel_rfl) rfl (by decide)
            · exact owe_off 2 32 rfl rfl rfl (by kernel_rfl) rfl (by decide)
            · exact owe_pick rfl (wants_all rfl) rfl (opnd_op 2 32 (by kernel_rfl) rfl) (fun h => nomatch h) (fun _ => (opnd_const _)) rfl
            · exact owe_move rfl (wants_all rfl) (Or.inr rfl) (opnd_op 6 36 (by kernel_rfl) rfl) rfl
          intro B5 a5 W5 S5
          replace S5 : Sta w 45 [] [(29, (Is (.bool false))), (25, (Is (.bool false))), (16, (Is (.bool false))), (5, (Is (.bool true))), (4, (Is (.bool false))), (0, (Is (str l))), (1, (Is (.int .i64 (i : Nat))))] B5 a5 W5 := S5
          refine wp_cond_false (S5.bool 0 29 rfl) ?_
          refine wp_skip ?_
          refine inBlkN ?_
          refine thenN ?_
          refine wp_stmt_seq [.val (Is (.bool true)),
      .val (Is (.bool true))] [] [.inl 1, .inr 0, .inr 1, .inr 2, .inr 3, .inr 5, .inr 6] follows S5 rfl (by kernel_rfl) ?_ ?_
          · refine ⟨⟨trivial, ?_⟩, ?_⟩
            · exact owe_move rfl (wants_all rfl) (Or.inl rfl) (opnd_slot 3 5 rfl (by kernel_rfl)) rfl
            · exact owe_move rfl (wants_all rfl) (Or.inr rfl) (opnd_op 0 44 (by kernel_rfl) rfl) rfl
          intro B6 a6 W6 S6
          replace S6 : Sta w 45 [] [(4, (Is (.bool true))), (29, (Is (.bool false))), (25, (Is (.bool false))), (16, (Is (.bool false))), (5, (Is (.bool true))), (0, (Is (str l))), (1, (Is (.int .i64 (i : Nat))))] B6 a6 W6 := S6
          refine wp_ret ?_
          exact end_one S6 rfl (res_tmp S6 0 4 rfl)
  · skip
    have hd : dgB (bt l i) = false := dgB_no.2 (by omega)
    refine wp_stmt_seq [.val (Is (str l)),
      .val (Is (.int .i64 (i : Nat))),
      .val (Is (.int .u8 ((bt l i : Nat) : Int))),
      .val (Is (.bool true)),
      .val (Is (.bool true)),
      .val (Is (str l)),
      .val (Is (.int .i64 (i : Nat))),
      .val (Is (.int .u8 ((bt l i : Nat) : Int))),
      .val (Is (.bool false)),
      .val (Is (.bool false)),
      .val (Is (.bool false))] [] [.inl 10, .inr 0, .inr 1, .inr 2] follows S1 rfl (by kernel_rfl) ?_ ?_
    · refine ⟨⟨⟨⟨⟨⟨⟨⟨⟨⟨⟨trivial, ?_⟩, ?_⟩, ?_⟩, ?_⟩, ?_⟩, ?_⟩, ?_⟩, ?_⟩, ?_⟩, ?_⟩, ?_⟩
      · exact owe_move rfl (wants_all rfl) (Or.inl rfl) (opnd_slot 1 0 rfl (by kernel_rfl)) rfl
      · exact owe_move rfl (wants_all rfl) (Or.inl rfl) (opnd_slot 2 1 rfl (by kernel_rfl)) rfl
      · exact owe_two rfl (wants_all rfl) rfl (opnd_op 0 6 (by kernel_rfl) rfl) (opnd_op 1 7 (by kernel_rfl) rfl) rfl (fun ρ w h1 h2 => run_idx ρ _ _ _ w l i (by omega) h1 h2)
      · exact owe_bin rfl (wants_all rfl) rfl (opnd_const _) (opnd_op 2 8 (by kernel_rfl) rfl) rfl (fun ρ w h1 h2 => by exact run_leq_u8_t ρ _ _ _ w _ _ (by omega) h1 h2)
      · exact owe_move rfl (wants_all rfl) (Or.inl rfl) (opnd_op 3 9 (by kernel_rfl) rfl) rfl
      · exact owe_move rfl (wants_if 4 10 rfl (by kernel_rfl) rfl) (Or.inl rfl) (opnd_slot 1 0 rfl (by kernel_rfl)) rfl
      · exact owe_move rfl (wants_if 4 10 rfl (by kernel_rfl) rfl) (Or.inl rfl) (opnd_slot 2 1 rfl (by kernel_rfl)) rfl
      · exact owe_two rfl (wants_if 4 10 rfl (by kernel_rfl) rfl) rfl (opnd_op 5 11 (by kernel_rfl) rfl) (opnd_op 6 12 (by kernel_rfl) rfl) rfl (fun ρ w h1 h2 => run_idx ρ _ _ _ w l i (by omega) h1 h2)
      · exact owe_bin rfl (wants_if 4 10 rfl (by kernel_rfl) rfl) rfl (opnd_op 7 13 (by kernel_rfl) rfl) (opnd_const _) rfl (fun ρ w h1 h2 => by exact run_leq_u8_f ρ _ _ _ w _ _ (by omega) h1 h2)
      · exact owe_pick rfl (wants_all rfl) rfl (opnd_op 4 10 (by kernel_rfl) rfl) (fun _ => (opnd_op 8 14 (by kernel_rfl) rfl)) (fun h => nomatch h) rfl
      · exact owe_move rfl (wants_all rfl) (Or.inr rfl) (opnd_op 9 15 (by kernel_rfl) rfl) rfl
    intro B2 a2 W2 S2
    replace S2 : Sta w 45 [] [(5, (Is (.bool false))), (4, (Is (.bool false))), (0, (Is (str l))), (1, (Is (.int .i64 (i : Nat))))] B2 a2 W2 := S2
    rcases Nat.eq_zero_or_pos i with hi0 | hi0
    · skip
      have hbi : bt l i = bt l 0 := by rw [hi0]
      refine wp_seq ?_
      refine wp_block ?_
      refine wp_stmt_seq [.val (Is (.int .i64 (i : Nat))),
      .val (Is (.bool true)),
      .val (Is (.bool true))] [] [.inl 2, .inr 0, .inr 1, .inr 2, .inr 3] follows S2 rfl (by kernel_rfl) ?_ ?_
      · refine ⟨⟨⟨trivial, ?_⟩, ?_⟩, ?_⟩
        · exact owe_move rfl (wants_all rfl) (Or.inl rfl) (opnd_slot 3 1 rfl (by kernel_rfl)) rfl
        · exact owe_bin rfl (wants_all rfl) rfl (opnd_op 0 17 (by kernel_rfl) rfl) (opnd_const _) rfl (fun ρ w h1 h2 => by exact run_eql_int_t ρ _ _ _ w _ _ (by omega) h1 h2)
        · exact owe_move rfl (wants_all rfl) (Or.inr rfl) (opnd_op 1 18 (by kernel_rfl) rfl) rfl
      intro B3 a3 W3 S3
      replace S3 : Sta w 45 [] [(16, (Is (.bool true))), (5, (Is (.bool false))), (4, (Is (.bool false))), (0, (Is (str l))), (1, (Is (.int .i64 (i : Nat))))] B3 a3 W3 := S3
      refine wp_cond_true (S3.bool 0 16 rfl) ?_
      by_cases h45 : bt l 0 = 45
      · skip
        obtain rfl : r = true := by rw [← hr, goes_0 hi0 hd]; simp [h45]
        refine wp_stmt_seq [.val (Is (.bool false)),
      .val (Is (.bool false)),
      .val (Is (str l)),
      .val (Is (.int .u8 ((bt l 0 : Nat) : Int))),
      .val (Is (.bool true)),
      .val (Is (.bool true)),
      .val (Is (.bool true))] [] [.inl 6, .inr 0, .inr 1, .inr 3, .inr 4] follows S3 rfl (by kernel_rfl) ?_ ?_
        · refine ⟨⟨⟨⟨⟨⟨⟨trivial, ?_⟩, ?_⟩, ?_⟩, ?_⟩, ?_⟩, ?_⟩, ?_⟩
          · exact owe_move rfl (wants_all rfl) (Or.inl rfl) (opnd_slot 1 5 rfl (by kernel_rfl)) rfl
          · exact owe_move rfl (wants_all rfl) (Or.inl rfl) (opnd_op 0 19 (by kernel_rfl) rfl) rfl
          · exact owe_move rfl (wants_if 1 20 rfl (by kernel_rfl) rfl) (Or.inl rfl) (opnd_slot 3 0 rfl (by kernel_rfl)) rfl
          · exact owe_two rfl (wants_if 1 20 rfl (by kernel_rfl) rfl) rfl (opnd_op 2 21 (by kernel_rfl) rfl) (opnd_const _) rfl (fun ρ w h1 h2 => run_idx ρ _ _ _ w l 0 (by omega) h1 h2)
          · exact owe_bin rfl (wants_if 1 20 rfl (by kernel_rfl) rfl) rfl (opnd_op 3 22 (by kernel_rfl) rfl) (opnd_const _) rfl (fun ρ w h1 h2 => by exact run_eql_u8_t ρ _ _ _ w _ _ (by omega) h1 h2)
          · exact owe_pick rfl (wants_all rfl) rfl (opnd_op 1 20 (by kernel_rfl) rfl) (fun h => nomatch h) (fun _ => (opnd_op 4 23 (by kernel_rfl) rfl)) rfl
          · exact owe_move rfl (wants_all rfl) (Or.inr rfl) (opnd_op 5 24 (by kernel_rfl) rfl) rfl
        intro B4 a4 W4 S4
        replace S4 : Sta w 45 [] [(4, (Is (.bool true))), (16, (Is (.bool true))), (5, (Is (.bool false))), (0, (Is (str l))), (1, (Is (.int .i64 (i : Nat))))] B4 a4 W4 := S4
        refine wp_ret ?_
        refine inBlkR ?_
        refine thenR ?_
        exact end_one S4 rfl (res_tmp S4 0 4 rfl)
      · skip
        obtain rfl : r = false := by rw [← hr, goes_0 hi0 hd]; simp [h45]
        refine wp_stmt_seq [.val (Is (.bool false)),
      .val (Is (.bool false)),
      .val (Is (str l)),
      .val (Is (.int .u8 ((bt l 0 : Nat) : Int))),
      .val (Is (.bool false)),
      .val (Is (.bool false)),
      .val (Is (.bool false))] [] [.inl 6, .inr 0, .inr 1, .inr 3, .inr 4] follows S3 rfl (by kernel_rfl) ?_ ?_
        · refine ⟨⟨⟨⟨⟨⟨⟨trivial, ?_⟩, ?_⟩, ?_⟩, ?_⟩, ?_⟩, ?_⟩, ?_⟩
          · exact owe_move rfl (wants_all rfl) (Or.inl rfl) (opnd_slot 1 5 rfl (by kernel_rfl)) rfl
          · exact owe_move rfl (wants_all rfl) (Or.inl rfl) (opnd_op 0 19 (by kernel_rfl) rfl) rfl
          · exact owe_move rfl (wants_if 1 20 rfl (by kernel_rfl) rfl) (Or.inl rfl) (opnd_slot 3 0 rfl (by kernel_rfl)) rfl
          · exact owe_two rfl (wants_if 1 20 rfl (by kernel_rfl) rfl) rfl (opnd_op 2 21 (by kernel_rfl) rfl) (opnd_const _) rfl (fun ρ w h1 h2 => run_idx ρ _ _ _ w l 0 (by omega) h1 h2)
          · exact owe_bin rfl (wants_if 1 20 rfl (by kernel_rfl) rfl) rfl (opnd_op 3 22 (by kernel_rfl) rfl) (opnd_const _) rfl (fun ρ w h1 h2 => by exact run_eql_u8_f ρ _ _ _ w _ _ (by omega) h1 h2)
          · exact owe_pick rfl (wants_all rfl) rfl (opnd_op 1 20 (by kernel_rfl) rfl) (fun h => nomatch h) (fun _ => (opnd_op 4 23 (by kernel_rfl) rfl)) rfl
          · exact owe_move rfl (wants_all rfl) (Or.inr rfl) (opnd_op 5 24 (by kernel_rfl) rfl) rfl
        intro B4 a4 W4 S4
        replace S4 : Sta w 45 [] [(4, (Is (.bool false))), (16, (Is (.bool true))), (5, (Is (.bool false))), (0, (Is (str l))), (1, (Is (.int .i64 (i : Nat))))] B4 a4 W4 := S4
        refine wp_ret ?_
        refine inBlkR ?_
        refine thenR ?_
        exact end_one S4 rfl (res_tmp S4 0 4 rfl)
    · skip
      have hi1 : i ≠ 0 := by omega
      refine wp_seq ?_
      refine wp_block ?_
      refine wp_stmt_seq [.val (Is (.int .i64 (i : Nat))),
      .val (Is (.bool false)),
      .val (Is (.bool false))] [] [.inl 2, .inr 0, .inr 1, .inr 2, .inr 3] follows S2 rfl (by kernel_rfl) ?_ ?_
      · refine ⟨⟨⟨trivial, ?_⟩, ?_⟩, ?_⟩
        · exact owe_move rfl (wants_all rfl) (Or.inl rfl) (opnd_slot 3 1 rfl (by kernel_rfl)) rfl
        · exact owe_bin rfl (wants_all rfl) rfl (opnd_op 0 17 (by kernel_rfl) rfl) (opnd_const _) rfl (fun ρ w h1 h2 => by exact run_eql_int_f ρ _ _ _ w _ _ (by omega) h1 h2)
        · exact owe_move rfl (wants_all rfl) (Or.inr rfl) (opnd_op 1 18 (by kernel_rfl) rfl) rfl
      intro B3 a3 W3 S3
      replace S3 : Sta w 45 [] [(16, (Is (.bool false))), (5, (Is (.bool false))), (4, (Is (.bool false))), (0, (Is (str l))), (1, (Is (.int .i64 (i : Nat))))] B3 a3 W3 := S3
      refine wp_cond_false (S3.bool 0 16 rfl) ?_
      by_cases h48 : bt l 0 = 48
      · skip
        obtain rfl : r = false := by rw [← hr, goes_48 hi1 h48]
        refine wp_stmt_seq [.val (Is (str l)),
      .val (Is (.int .u8 ((bt l 0 : Nat) : Int))),
      .val (Is (.bool true)),
      .val (Is (.bool true))] [] [.inl 3, .inr 0, .inr 1, .inr 2, .inr 3, .inr 4] follows S3 rfl (by kernel_rfl) ?_ ?_
        · refine ⟨⟨⟨⟨trivial, ?_⟩, ?_⟩, ?_⟩, ?_⟩
          · exact owe_move rfl (wants_all rfl) (Or.inl rfl) (opnd_slot 3 0 rfl (by kernel_rfl)) rfl
          · exact owe_two rfl (wants_all rfl) rfl (opnd_op 0 26 (by kernel_rfl) rfl) (opnd_const _) rfl (fun ρ w h1 h2 => run_idx ρ _ _ _ w l 0 (by omega) h1 h2)
          · exact owe_bin rfl (wants_all rfl) rfl (opnd_op 1 27 (by kernel_rfl) rfl) (opnd_const _) rfl (fun ρ w h1 h2 => by exact run_eql_u8_t ρ _ _ _ w _ _ (by omega) h1 h2)
          · exact owe_move rfl (wants_all rfl) (Or.inr rfl) (opnd_op 2 28 (by kernel_rfl) rfl) rfl
        intro B4 a4 W4 S4
        replace S4 : Sta w 45 [] [(25, (Is (.bool true))), (16, (Is (.bool false))), (5, (Is (.bool false))), (4, (Is (.bool false))), (0, (Is (str l))), (1, (Is (.int .i64 (i : Nat))))] B4 a4 W4 := S4
        refine wp_cond_true (S4.bool 0 25 rfl) ?_
        refine wp_stmt_seq [.val (Is (.bool false))] [] [.inl 0, .inr 0, .inr 1, .inr 2, .inr 4, .inr 5] follows S4 rfl (by kernel_rfl) ?_ ?_
        · refine ⟨trivial, ?_⟩
          · exact owe_move rfl (wants_all rfl) (Or.inr rfl) (opnd_const _) rfl
        intro B5 a5 W5 S5
        replace S5 : Sta w 45 [] [(4, (Is (.bool false))), (25, (Is (.bool true))), (16, (Is (.bool false))), (5, (Is (.bool false))), (0, (Is (str l))), (1, (Is (.int .i64 (i : Nat))))] B5 a5 W5 := S5
        refine wp_ret ?_
        refine inBlkR ?_
        refine thenR ?_
        exact end_one S5 rfl (res_tmp S5 0 4 rfl)
      · skip
        refine wp_stmt_seq [.val (Is (str l)),
      .val (Is (.int .u8 ((bt l 0 : Nat) : Int))),
      .val (Is (.bool false)),
      .val (Is (.bool false))] [] [.inl 3, .inr 0, .inr 1, .inr 2, .inr 3, .inr 4] follows S3 rfl (by kernel_rfl) ?_ ?_
        · refine ⟨⟨⟨⟨trivial, ?_⟩, ?_⟩, ?_⟩, ?_⟩
          · exact owe_move rfl (wants_all rfl) (Or.inl rfl) (opnd_slot 3 0 rfl (by kernel_rfl)) rfl
          · exact owe_two rfl (wants_all rfl) rfl (opnd_op 0 26 (by kernel_rfl) rfl) (opnd_const _) rfl (fun ρ w h1 h2 => run_idx ρ _ _ _ w l 0 (by omega) h1 h2)
          · exact owe_bin rfl (wants_all rfl) rfl (opnd_op 1 27 (by kernel_rfl) rfl) (opnd_const _) rfl (fun ρ w h1 h2 => by exact run_eql_u8_f ρ _ _ _ w _ _ (by omega) h1 h2)
          · exact owe_move rfl (wants_all rfl) (Or.inr rfl) (opnd_op 2 28 (by kernel_rfl) rfl) rfl
        intro B4 a4 W4 S4
        replace S4 : Sta w 45 [] [(25, (Is (.bool false))), (16, (Is (.bool false))), (5, (Is (.bool false))), (4, (Is (.bool false))), (0, (Is (str l))), (1, (Is (.int .i64 (i : Nat))))] B4 a4 W4 := S4
        refine wp_cond_false (S4.bool 0 25 rfl) ?_
        rcases (show (i = 1 ∧ bt l 0 = 45) ∨ (i = 1 ∧ bt l 0 ≠ 45) ∨ i ≠ 1 from by omega) with ⟨h1i, h45⟩ | ⟨h1i, h45⟩ | h1i
        · skip
          obtain rfl : r = false := by rw [← hr, goes_1 h1i h48 h45 hd, Bool.false_and]
          refine wp_stmt_seq [.val (Is (.int .i64 (i : Nat))),
      .val (Is (.bool true)),
      .val (Is (.bool true)),
      .val (Is (str l)),
      .val (Is (.int .u8 ((bt l 0 : Nat) : Int))),
      .val (Is (.bool true)),
      .val (Is (.bool true)),
      .val (Is (.bool true))] [] [.inl 7, .inr 0, .inr 1, .inr 2, .inr 3, .inr 4, .inr 5] follows S4 rfl (by kernel_rfl) ?_ ?_
          · refine ⟨⟨⟨⟨⟨⟨⟨⟨trivial, ?_⟩, ?_⟩, ?_⟩, ?_⟩, ?_⟩, ?_⟩, ?_⟩, ?_⟩
            · exact owe_move rfl (wants_all rfl) (Or.inl rfl) (opnd_slot 5 1 rfl (by kernel_rfl)) rfl
            · exact owe_bin rfl (wants_all rfl) rfl (opnd_op 0 30 (by kernel_rfl) rfl) (opnd_const _) rfl (fun ρ w h1 h2 => by exact run_eql_int_t ρ _ _ _ w _ _ (by omega) h1 h2)
            · exact owe_move rfl (wants_all rfl) (Or.inl rfl) (opnd_op 1 31 (by kernel_rfl) rfl) rfl
            · exact owe_move rfl (wants_if 2 32 rfl (by kernel_rfl) rfl) (Or.inl rfl) (opnd_slot 4 0 rfl (by kernel_rfl)) rfl
            · exact owe_two rfl (wants_if 2 32 rfl (by kernel_rfl) rfl) rfl (opnd_op 3 33 (by kernel_rfl) rfl) (opnd_const _) rfl (fun ρ w h1 h2 => run_idx ρ _ _ _ w l 0 (by omega) h1 h2)
            · exact owe_bin rfl (wants_if 2 32 rfl (by kernel_rfl) rfl) rfl (opnd_op 4 34 (by kernel_rfl) rfl) (opnd_const _) rfl (fun ρ w h1 h2 => by exact run_eql_u8_t ρ _ _ _ w _ _ (by omega) h1 h2)
            · exact owe_pick rfl (wants_all rfl) rfl (opnd_op 2 32 (by kernel_rfl) rfl) (fun _ => (opnd_op 5 35 (by kernel_rfl) rfl)) (fun h => nomatch h) rfl
            · exact owe_move rfl (wants_all rfl) (Or.inr rfl) (opnd_op 6 36 (by kernel_rfl) rfl) rfl
          intro B5 a5 W5 S5
          replace S5 : Sta w 45 [] [(29, (Is (.bool true))), (25, (Is (.bool false))), (16, (Is (.bool false))), (5, (Is (.bool false))), (4, (Is (.bool false))), (0, (Is (str l))), (1, (Is (.int .i64 (i : Nat))))] B5 a5 W5 := S5
          refine wp_cond_true (S5.bool 0 29 rfl) ?_
          refine wp_stmt_seq [.val (Is (.bool false)),
      .val (Is (.bool false)),
      .off,
      .off,
      .off,
      .off,
      .val (Is (.bool false)),
      .val (Is (.bool false))] [] [.inl 7, .inr 0, .inr 1, .inr 2, .inr 3, .inr 5, .inr 6] follows S5 rfl (by kernel_rfl) ?_ ?_
          · refine ⟨⟨⟨⟨⟨⟨⟨⟨trivial, ?_⟩, ?_⟩, ?_⟩, ?_⟩, ?_⟩, ?_⟩, ?_⟩, ?_⟩
            · exact owe_move rfl (wants_all rfl) (Or.inl rfl) (opnd_slot 3 5 rfl (by kernel_rfl)) rfl
            · exact owe_move rfl (wants_all rfl) (Or.inl rfl) (opnd_op 0 37 (by kernel_rfl) rfl) rfl
            · exact owe_off 1 38 rfl rfl rfl (by kernel_rfl) rfl (by decide)
            · exact owe_off 1 38 rfl rfl rfl (by kernel_rfl) rfl (by decide)
            · exact owe_off 1 38 rfl rfl rfl (by kernel_rfl) rfl (by decide)
            · exact owe_off 1 38 rfl rfl rfl (by kernel_rfl) rfl (by decide)
            · exact owe_pick rfl (wants_all rfl) rfl (opnd_op 1 38 (by kernel_rfl) rfl) (fun h => nomatch h) (fun _ => (opnd_const _)) rfl
            · exact owe_move rfl (wants_all rfl) (Or.inr rfl) (opnd_op 6 43 (by kernel_rfl) rfl) rfl
          intro B6 a6 W6 S6
          replace S6 : Sta w 45 [] [(4, (Is (.bool false))), (29, (Is (.bool true))), (25, (Is (.bool false))), (16, (Is (.bool false))), (5, (Is (.bool false))), (0, (Is (str l))), (1, (Is (.int .i64 (i : Nat))))] B6 a6 W6 := S6
          refine wp_ret ?_
          refine inBlkR ?_
          refine thenR ?_
          exact end_one S6 rfl (res_tmp S6 0 4 rfl)
        · skip
          obtain rfl : r = false := by rw [← hr, goes_n hi1 h48 (by omega) hd]
          refine wp_stmt_seq [.val (Is (.int .i64 (i : Nat))),
      .val (Is (.bool true)),
      .val (Is (.bool true)),
      .val (Is (str l)),
      .val (Is (.int .u8 ((bt l 0 : Nat) : Int))),
      .val (Is (.bool false)),
      .val (Is (.bool false)),
      .val (Is (.bool false))] [] [.inl 7, .inr 0, .inr 1, .inr 2, .inr 3, .inr 4, .inr 5] follows S4 rfl (by kernel_rfl) ?_ ?_
          · refine ⟨⟨⟨⟨⟨⟨⟨⟨trivial, ?_⟩, ?_⟩, ?_⟩, ?_⟩, ?_⟩, ?_⟩, ?_⟩, ?_⟩
            · exact owe_move rfl (wants_all rfl) (Or.inl rfl) (opnd_slot 5 1 rfl (by kernel_rfl)) rfl
            · exact owe_bin rfl (wants_all rfl) rfl (opnd_op 0 30 (by kernel_rfl) rfl) (opnd_const _) rfl (fun ρ w h1 h2 => by exact run_eql_int_t ρ _ _ _ w _ _ (by omega) h1 h2)
            · exact owe_move rfl (wants_all rfl) (Or.inl rfl) (opnd_op 1 31 (by kernel_rfl) rfl) rfl
            · exact owe_move rfl (wants_if 2 32 rfl (by kernel_rfl) rfl) (Or.inl rfl) (opnd_slot 4 0 rfl (by kernel_rfl)) rfl
            · exact owe_two rfl (wants_if 2 32 rfl (by kernel_rfl) rfl) rfl (opnd_op 3 33 (by kernel_rfl) rfl) (opnd_const _) rfl (fun ρ w h1 h2 => run_idx ρ _ _ _ w l 0 (by omega) h1 h2)
            · exact owe_bin rfl (wants_if 2 32 rfl (by kernel_rfl) rfl) rfl (opnd_op 4 34 (by kernel_rfl) rfl) (opnd_const _) rfl (fun ρ w h1 h2 => by exact run_eql_u8_f ρ _ _ _ w _ _ (by omega) h1 h2)
            · exact owe_pick rfl (wants_all rfl) rfl (opnd_op 2 32 (by kernel_rfl) rfl) (fun _ => (opnd_op 5 35 (by kernel_rfl) rfl)) (fun h => nomatch h) rfl
            · exact owe_move rfl (wants_all rfl) (Or.inr rfl) (opnd_op 6 36 (by kernel_rfl) rfl) rfl
          intro B5 a5 W5 S5
          replace S5 : Sta w 45 [] [(29, (Is (.bool false))), (25, (Is (.bool false))), (16, (Is (.bool false))), (5, (Is (.bool false))), (4, (Is (.bool false))), (0, (Is (str l))), (1, (Is (.int .i64 (i : Nat))))] B5 a5 W5 := S5
          refine wp_cond_false (S5.bool 0 29 rfl) ?_
          refine wp_skip ?_
          refine inBlkN ?_
          refine thenN ?_
          refine wp_stmt_seq [.val (Is (.bool false)),
      .val (Is (.bool false))] [] [.inl 1, .inr 0, .inr 1, .inr 2, .inr 3, .inr 5, .inr 6] follows S5 rfl (by kernel_rfl) ?_ ?_
          · refine ⟨⟨trivial, ?_⟩, ?_⟩
            · exact owe_move rfl (wants_all rfl) (Or.inl rfl) (opnd_slot 3 5 rfl (by kernel_rfl)) rfl
            · exact owe_move rfl (wants_all rfl) (Or.inr rfl) (opnd_op 0 44 (by kernel_rfl) rfl) rfl
          intro B6 a6 W6 S6
          replace S6 : Sta w 45 [] [(4, (Is (.bool false))), (29, (Is (.bool false))), (25, (Is (.bool false))), (16, (Is (.bool false))), (5, (Is (.bool false))), (0, (Is (str l))), (1, (Is (.int .i64 (i : Nat))))] B6 a6 W6 := S6
          refine wp_ret ?_
          exact end_one S6 rfl (res_tmp S6 0 4 rfl)
        · skip
          obtain rfl : r = false := by rw [← hr, goes_n hi1 h48 (by omega) hd]
          refine wp_stmt_seq [.val (Is (.int .i64 (i : Nat))),
      .val (Is (.bool false)),
      .val (Is (.bool false)),
      .off,
      .off,
      .off,
      .val (Is (.bool false)),
      .val (Is (.bool false))] [] [.inl 7, .inr 0, .inr 1, .inr 2, .inr 3, .inr 4, .inr 5] follows S4 rfl (by kernel_rfl) ?_ ?_
          · refine ⟨⟨⟨⟨⟨⟨⟨⟨trivial, ?_⟩, ?_⟩, ?_⟩, ?_⟩, ?_⟩, ?_⟩, ?_⟩, ?_⟩
            · exact owe_move rfl (wants_all rfl) (Or.inl rfl) (opnd_slot 5 1 rfl (by kernel_rfl)) rfl
            · exact owe_bin rfl (wants_all rfl) rfl (opnd_op 0 30 (by kernel_rfl) rfl) (opnd_const _) rfl (fun ρ w h1 h2 => by exact run_eql_int_f ρ _ _ _ w _ _ (by omega) h1 h2)
            · exact owe_move rfl (wants_all rfl) (Or.inl rfl) (opnd_op 1 31 (by kernel_rfl) rfl) rfl
            · exact owe_off 2 32 rfl rfl rfl (by kernel_rfl) rfl (by decide)
            · exact owe_off 2 32 rfl rfl rfl (by kernel_rfl) rfl (by decide)
            · exact owe_off 2 32 rfl rfl rfl (by kernel_rfl) rfl (by decide)
            · exact owe_pick rfl (wants_all rfl) rfl (opnd_op 2 32 (by kernel_rfl) rfl) (fun h => nomatch h) (fun _ => (opnd_const _)) rfl
            · exact owe_move rfl (wants_all rfl) (Or.inr rfl) (opnd_op 6 36 (by kernel_rfl) rfl) rfl
          intro B5 a5 W5 S5
          replace S5 : Sta w 45 [] [(29, (Is (.bool false))), (25, (Is (.bool false))), (16, (Is (.bool false))), (5, (Is (.bool false))), (4, (Is (.bool false))), (0, (Is (str l))), (1, (Is (.int .i64 (i : Nat))))] B5 a5 W5 := S5
          refine wp_cond_false (S5.bool 0 29 rfl) ?_
          refine wp_skip ?_
          refine inBlkN ?_
          refine thenN ?_
          refine wp_stmt_seq [.val (Is (.bool false)),
      .val (Is (.bool false))] [] [.inl 1, .inr 0, .inr 1, .inr 2, .inr 3, .inr 5, .inr 6] follows S5 rfl (by kernel_rfl) ?_ ?_
          · refine ⟨⟨trivial, ?_⟩, ?_⟩
            · exact owe_move rfl (wants_all rfl) (Or.inl rfl) (opnd_slot 3 5 rfl (by kernel_rfl)) rfl
            · exact owe_move rfl (wants_all rfl) (Or.inr rfl) (opnd_op 0 44 (by kernel_rfl) rfl) rfl
          intro B6 a6 W6 S6
          replace S6 : Sta w 45 [] [(4, (Is (.bool false))), (29, (Is (.bool false))), (25, (Is (.bool false))), (16, (Is (.bool false))), (5, (Is (.bool false))), (0, (Is (str l))), (1, (Is (.int .i64 (i : Nat))))] B6 a6 W6 := S6
          refine wp_ret ?_
          exact end_one S6 rfl (res_tmp S6 0 4 rfl)
  · skip
    have hd : dgB (bt l i) = false := dgB_no.2 (by omega)
    refine wp_stmt_seq [.val (Is (str l)),
      .val (Is (.int .i64 (i : Nat))),
      .val (Is (.int .u8 ((bt l i : Nat) : Int))),
      .val (Is (.bool false)),
      .val (Is (.bool false)),
      .off,
      .off,
      .off,
      .off,
      .val (Is (.bool false)),
      .val (Is (.bool false))] [] [.inl 10, .inr 0, .inr 1, .inr 2] follows S1 rfl (by kernel_rfl) ?_ ?_
    · refine ⟨⟨⟨⟨⟨⟨⟨⟨⟨⟨⟨trivial, ?_⟩, ?_⟩, ?_⟩, ?_⟩, ?_⟩, ?_⟩, ?_⟩, ?_⟩, ?_⟩, ?_⟩, ?_⟩
      · exact owe_move rfl (wants_all rfl) (Or.inl rfl) (opnd_slot 1 0 rfl (by kernel_rfl)) rfl
      · exact owe_move rfl (wants_all rfl) (Or.inl rfl) (opnd_slot 2 1 rfl (by kernel_rfl)) rfl
      · exact owe_two rfl (wants_all rfl) rfl (opnd_op 0 6 (by kernel_rfl) rfl) (opnd_op 1 7 (by kernel_rfl) rfl) rfl (fun ρ w h1 h2 => run_idx ρ _ _ _ w l i (by omega) h1 h2)
      · exact owe_bin rfl (wants_all rfl) rfl (opnd_const _) (opnd_op 2 8 (by kernel_rfl) rfl) rfl (fun ρ w h1 h2 => by exact run_leq_u8_f ρ _ _ _ w _ _ (by omega) h1 h2)
      · exact owe_move rfl (wants_all rfl) (Or.inl rfl) (opnd_op 3 9 (by kernel_rfl) rfl) rfl
      · exact owe_off 4 10 rfl rfl rfl (by kernel_rfl) rfl (by decide)
      · exact owe_off 4 10 rfl rfl rfl (by kernel_rfl) rfl (by decide)
      · exact owe_off 4 10 rfl rfl rfl (by kernel_rfl) rfl (by decide)
      · exact owe_off 4 10 rfl rfl rfl (by kernel_rfl) rfl (by decide)
      · exact owe_pick rfl (wants_all rfl) rfl (opnd_op 4 10 (by kernel_rfl) rfl) (fun h => nomatch h) (fun _ => (opnd_const _)) rfl
      · exact owe_move rfl (wants_all rfl) (Or.inr rfl) (opnd_op 9 15 (by kernel_rfl) rfl) rfl
    intro B2 a2 W2 S2
    replace S2 : Sta w 45 [] [(5, (Is (.bool false))), (4, (Is (.bool false))), (0, (Is (str l))), (1, (Is (.int .i64 (i : Nat))))] B2 a2 W2 := S2
    rcases Nat.eq_zero_or_pos i with hi0 | hi0
    · skip
      have hbi : bt l i = bt l 0 := by rw [hi0]
      refine wp_seq ?_
      refine wp_block ?_
      refine wp_stmt_seq [.val (Is (.int .i64 (i : Nat))),
      .val (Is (.bool true)),
      .val (Is (.bool true))] [] [.inl 2, .inr 0, .inr 1, .inr 2, .inr 3] follows S2 rfl (by kernel_rfl) ?_ ?_
      · refine ⟨⟨⟨trivial, ?_⟩, ?_⟩, ?_⟩
        · exact owe_move rfl (wants_all rfl) (Or.inl rfl) (opnd_slot 3 1 rfl (by kernel_rfl)) rfl
        · exact owe_bin rfl (wants_all rfl) rfl (opnd_op 0 17 (by kernel_rfl) rfl) (opnd_const _) rfl (fun ρ w h1 h2 => by exact run_eql_int_t ρ _ _ _ w _ _ (by omega) h1 h2)
        · exact owe_move rfl (wants_all rfl) (Or.inr rfl) (opnd_op 1 18 (by kernel_rfl) rfl) rfl
      intro B3 a3 W3 S3
      replace S3 : Sta w 45 [] [(16, (Is (.bool true))), (5, (Is (.bool false))), (4, (Is (.bool false))), (0, (Is (str l))), (1, (Is (.int .i64 (i : Nat))))] B3 a3 W3 := S3
      refine wp_cond_true (S3.bool 0 16 rfl) ?_
      by_cases h45 : bt l 0 = 45
      · skip
        obtain rfl : r = true := by rw [← hr, goes_0 hi0 hd]; simp [h45]
        refine wp_stmt_seq [.val (Is (.bool false)),
      .val (Is (.bool false)),
      .val (Is (str l)),
      .val (Is (.int .u8 ((bt l 0 : Nat) : Int))),
      .val (Is (.bool true)),
      .val (Is (.bool true)),
      .val (Is (.bool true))] [] [.inl 6, .inr 0, .inr 1, .inr 3, .inr 4] follows S3 rfl (by kernel_rfl) ?_ ?_
        · refine ⟨⟨⟨⟨⟨⟨⟨trivial, ?_⟩, ?_⟩, ?_⟩, ?_⟩, ?_⟩, ?_⟩, ?_⟩
          · exact owe_move rfl (wants_all rfl) (Or.inl rfl) (opnd_slot 1 5 rfl (by kernel_rfl)) rfl
          · exact owe_move rfl (wants_all rfl) (Or.inl rfl) (opnd_op 0 19 (by kernel_rfl) rfl) rfl
          · exact owe_move rfl (wants_if 1 20 rfl (by kernel_rfl) rfl) (Or.inl rfl) (opnd_slot 3 0 rfl (by kernel_rfl)) rfl
          · exact owe_two rfl (wants_if 1 20 rfl (by kernel_rfl) rfl) rfl (opnd_op 2 21 (by kernel_rfl) rfl) (opnd_const _) rfl (fun ρ w h1 h2 => run_idx ρ _ _ _ w l 0 (by omega) h1 h2)
          · exact owe_bin rfl (wants_if 1 20 rfl (by kernel_rfl) rfl) rfl (opnd_op 3 22 (by kernel_rfl) rfl) (opnd_const _) rfl (fun ρ w h1 h2 => by exact run_eql_u8_t ρ _ _ _ w _ _ (by omega) h1 h2)
          · exact owe_pick rfl (wants_all rfl) rfl (opnd_op 1 20 (by kernel_rfl) rfl) (fun h => nomatch h) (fun _ => (opnd_op 4 23 (by kernel_rfl) rfl)) rfl
          · exact owe_move rfl (wants_all rfl) (Or.inr rfl) (opnd_op 5 24 (by kernel_rfl) rfl) rfl
        intro B4 a4 W4 S4
        replace S4 : Sta w 45 [] [(4, (Is (.bool true))), (16, (Is (.bool true))), (5, (Is (.bool false))), (0, (Is (str l))), (1, (Is (.int .i64 (i : Nat))))] B4 a4 W4 := S4
        refine wp_ret ?_
        refine inBlkR ?_
        refine thenR ?_
        exact end_one S4 rfl (res_tmp S4 0 4 rfl)
      · skip
        obtain rfl : r = false := by rw [← hr, goes_0 hi0 hd]; simp [h45]
        refine wp_stmt_seq [.val (Is (.bool false)),
      .val (Is (.bool false)),
      .val (Is (str l)),
      .val (Is (.int .u8 ((bt l 0 : Nat) : Int))),
      .val (Is (.bool false)),
      .val (Is (.bool false)),
      .val (Is (.bool false))] [] [.inl 6, .inr 0, .inr 1, .inr 3, .inr 4] follows S3 rfl (by kernel_rfl) ?_ ?_
        · refine ⟨⟨⟨⟨⟨⟨⟨trivial, ?_⟩, ?_⟩, ?_⟩, ?_⟩, ?_⟩, ?_⟩, ?_⟩
          · exact owe_move rfl (wants_all rfl) (Or.inl rfl) (opnd_slot 1 5 rfl (by kernel_rfl)) rfl
          · exact owe_move rfl (wants_all rfl) (Or.inl rfl) (opnd_op 0 19 (by kernel_rfl) rfl) rfl
          · exact owe_move rfl (wants_if 1 20 rfl (by kernel_rfl) rfl) (Or.inl rfl) (opnd_slot 3 0 rfl (by kernel_rfl)) rfl
          · exact owe_two rfl (wants_if 1 20 rfl (by kernel_rfl) rfl) rfl (opnd_op 2 21 (by kernel_rfl) rfl) (opnd_const _) rfl (fun ρ w h1 h2 => run_idx ρ _ _ _ w l 0 (by omega) h1 h2)
          · exact owe_bin rfl (wants_if 1 20 rfl (by kernel_rfl) rfl) rfl (opnd_op 3 22 (by kernel_rfl) rfl) (opnd_const _) rfl (fun ρ w h1 h2 => by exact run_eql_u8_f ρ _ _ _ w _ _ (by omega) h1 h2)
          · exact owe_pick rfl (wants_all rfl) rfl (opnd_op 1 20 (by kernel_rfl) rfl) (fun h => nomatch h) (fun _ => (opnd_op 4 23 (by kernel_rfl) rfl)) rfl
          · exact owe_move rfl (wants_all rfl) (Or.inr rfl) (opnd_op 5 24 (by kernel_rfl) rfl) rfl
        intro B4 a4 W4 S4
        replace S4 : Sta w 45 [] [(4, (Is (.bool false))), (16, (Is (.bool true))), (5, (Is (.bool false))), (0, (Is (str l))), (1, (Is (.int .i64 (i : Nat))))] B4 a4 W4 := S4
        refine wp_ret ?_
        refine inBlkR ?_
        refine thenR ?_
        exact end_one S4 rfl (res_tmp S4 0 4 rfl)
    · skip
      have hi1 : i ≠ 0 := by omega
      refine wp_seq ?_
      refine wp_block ?_
      refine wp_stmt_seq [.val (Is (.int .i64 (i : Nat))),
      .val (Is (.bool false)),
      .val (Is (.bool false))] [] [.inl 2, .inr 0, .inr 1, .inr 2, .inr 3] follows S2 rfl (by kernel_rfl) ?_ ?_
      · refine ⟨⟨⟨trivial, ?_⟩, ?_⟩, ?_⟩
        · exact owe_move rfl (wants_all rfl) (Or.inl rfl) (opnd_slot 3 1 rfl (by kernel_rfl)) rfl
        · exact owe_bin rfl (wants_all rfl) rfl (opnd_op 0 17 (by kernel_rfl) rfl) (opnd_const _) rfl (fun ρ w h1 h2 => by exact run_eql_int_f ρ _ _ _ w _ _ (by omega) h1 h2)
        · exact owe_move rfl (wants_all rfl) (Or.inr rfl) (opnd_op 1 18 (by kernel_rfl) rfl) rfl
      intro B3 a3 W3 S3
      replace S3 : Sta w 45 [] [(16, (Is (.bool false))), (5, (Is (.bool false))), (4, (Is (.bool false))), (0, (Is (str l))), (1, (Is (.int .i64 (i : Nat))))] B3 a3 W3 := S3
      refine wp_cond_false (S3.bool 0 16 rfl) ?_
      by_cases h48 : bt l 0 = 48
      · skip
        obtain rfl : r = false := by rw [← hr, goes_48 hi1 h48]
        refine wp_stmt_seq [.val (Is (str l)),
      .val (Is (.int .u8 ((bt l 0 : Nat) : Int))),
      .val (Is (.bool true)),
      .val (Is (.bool true))] [] [.inl 3, .inr 0, .inr 1, .inr 2, .inr 3, .inr 4] follows S3 rfl (by kernel_rfl) ?_ ?_
        · refine ⟨⟨⟨⟨trivial, ?_⟩, ?_⟩, ?_⟩, ?_⟩
          · exact owe_move rfl (wants_all rfl) (Or.inl rfl) (opnd_slot 3 0 rfl (by kernel_rfl)) rfl
          · exact owe_two rfl (wants_all rfl) rfl (opnd_op 0 26 (by kernel_rfl) rfl) (opnd_const _) rfl (fun ρ w h1 h2 => run_idx ρ _ _ _ w l 0 (by omega) h1 h2)
          · exact owe_bin rfl (wants_all rfl) rfl (opnd_op 1 27 (by kernel_rfl) rfl) (opnd_const _) rfl (fun ρ w h1 h2 => by exact run_eql_u8_t ρ _ _ _ w _ _ (by omega) h1 h2)
          · exact owe_move rfl (wants_all rfl) (Or.inr rfl) (opnd_op 2 28 (by kernel_rfl) rfl) rfl
        intro B4 a4 W4 S4
        replace S4 : Sta w 45 [] [(25, (Is (.bool true))), (16, (Is (.bool false))), (5, (Is (.bool false))), (4, (Is (.bool false))), (0, (Is (str l))), (1, (Is (.int .i64 (i : Nat))))] B4 a4 W4 := S4
        refine wp_cond_true (S4.bool 0 25 rfl) ?_
        refine wp_stmt_seq [.val (Is (.bool false))] [] [.inl 0, .inr 0, .inr 1, .inr 2, .inr 4, .inr 5] follows S4 rfl (by kernel_rfl) ?_ ?_
        · refine ⟨trivial, ?_⟩
          · exact owe_move rfl (wants_all rfl) (Or.inr rfl) (opnd_const _) rfl
        intro B5 a5 W5 S5
        replace S5 : Sta w 45 [] [(4, (Is (.bool false))), (25, (Is (.bool true))), (16, (Is (.bool false))), (5, (Is (.bool false))), (0, (Is (str l))), (1, (Is (.int .i64 (i : Nat))))] B5 a5 W5 := S5
        refine wp_ret ?_
        refine inBlkR ?_
        refine thenR ?_
        exact end_one S5 rfl (res_tmp S5 0 4 rfl)
      · skip
        refine wp_stmt_seq [.val (Is (str l)),
      .val (Is (.int .u8 ((bt l 0 : Nat) : Int))),
      .val (Is (.bool false)),
      .val (Is (.bool false))] [] [.inl 3, .inr 0, .inr 1, .inr 2, .inr 3, .inr 4] follows S3 rfl (by kernel_rfl) ?_ ?_
        · refine ⟨⟨⟨⟨trivial, ?_⟩, ?_⟩, ?_⟩, ?_⟩
          · exact owe_move rfl (wants_all rfl) (Or.inl rfl) (opnd_slot 3 0 rfl (by kernel_rfl)) rfl
          · exact owe_two rfl (wants_all rfl) rfl (opnd_op 0 26 (by kernel_rfl) rfl) (opnd_const _) rfl (fun ρ w h1 h2 => run_idx ρ _ _ _ w l 0 (by omega) h1 h2)
          · exact owe_bin rfl (wants_all rfl) rfl (opnd_op 1 27 (by kernel_rfl) rfl) (opnd_const _) rfl (fun ρ w h1 h2 => by exact run_eql_u8_f ρ _ _ _ w _ _ (by omega) h1 h2)
          · exact owe_move rfl (wants_all rfl) (Or.inr rfl) (opnd_op 2 28 (by kernel_rfl) rfl) rfl
        intro B4 a4 W4 S4
        replace S4 : Sta w 45 [] [(25, (Is (.bool false))), (16, (Is (.bool false))), (5, (Is (.bool false))), (4, (Is (.bool false))), (0, (Is (str l))), (1, (Is (.int .i64 (i : Nat))))] B4 a4 W4 := S4
        refine wp_cond_false (S4.bool 0 25 rfl) ?_
        rcases (show (i = 1 ∧ bt l 0 = 45) ∨ (i = 1 ∧ bt l 0 ≠ 45) ∨ i ≠ 1 from by omega) with ⟨h1i, h45⟩ | ⟨h1i, h45⟩ | h1i
        · skip
          obtain rfl : r = false := by rw [← hr, goes_1 h1i h48 h45 hd, Bool.false_and]
          refine wp_stmt_seq [.val (Is (.int .i64 (i : Nat))),
      .val (Is (.bool true)),
      .val (Is (.bool true)),
      .val (Is (str l)),
      .val (Is (.int .u8 ((bt l 0 : Nat) : Int))),
      .val (Is (.bool true)),
      .val (Is (.bool true)),
      .val (Is (.bool true))] [] [.inl 7, .inr 0, .inr 1, .inr 2, .inr 3, .inr 4, .inr 5] follows S4 rfl (by kernel_rfl) ?_ ?_
          · refine ⟨⟨⟨⟨⟨⟨⟨⟨trivial, ?_⟩, ?_⟩, ?_⟩, ?_⟩, ?_⟩, ?_⟩, ?_⟩, ?_⟩
            · exact owe_move rfl (wants_all rfl) (Or.inl rfl) (opnd_slot 5 1 rfl (by kernel_rfl)) rfl
            · exact owe_bin rfl (wants_all rfl) rfl (opnd_op 0 30 (by kernel_rfl) rfl) (opnd_const _) rfl (fun ρ w h1 h2 => by exact run_eql_int_t ρ _ _ _ w _ _ (by omega) h1 h2)
            · exact owe_move rfl (wants_all rfl) (Or.inl rfl) (opnd_op 1 31 (by kernel_rfl) rfl) rfl
            · exact owe_move rfl (wants_if 2 32 rfl (by kernel_rfl) rfl) (Or.inl rfl) (opnd_slot 4 0 rfl (by kernel_rfl)) rfl
            · exact owe_two rfl (wants_if 2 32 rfl (by kernel_rfl) rfl) rfl (opnd_op 3 33 (by kernel_rfl) rfl) (opnd_const _) rfl (fun ρ w h1 h2 => run_idx ρ _ _ _ w l 0 (by omega) h1 h2)
            · exact owe_bin rfl (wants_if 2 32 rfl (by kernel_rfl) rfl) rfl (opnd_op 4 34 (by kernel_rfl) rfl) (opnd_const _) rfl (fun ρ w h1 h2 => by exact run_eql_u8_t ρ _ _ _ w _ _ (by omega) h1 h2)
            · exact owe_pick rfl (wants_all rfl) rfl (opnd_op 2 32 (by kernel_rfl) rfl) (fun _ => (opnd_op 5 35 (by kernel_rfl) rfl)) (fun h => nomatch h) rfl
            · exact owe_move rfl (wants_all rfl) (Or.inr rfl) (opnd_op 6 36 (by kernel_rfl) rfl) rfl
          intro B5 a5 W5 S5
          replace S5 : Sta w 45 [] [(29, (Is (.bool true))), (25, (Is (.bool false))), (16, (Is (.bool false))), (5, (Is (.bool false))), (4, (Is (.bool false))), (0, (Is (str l))), (1, (Is (.int .i64 (i : Nat))))] B5 a5 W5 := S5
          refine wp_cond_true (S5.bool 0 29 rfl) ?_
          refine wp_stmt_seq [.val (Is (.bool false)),
      .val (Is (.bool false)),
      .off,
      .off,
      .off,
      .off,
      .val (Is (.bool false)),
      .val (Is (.bool false))] [] [.inl 7, .inr 0, .inr 1, .inr 2, .inr 3, .inr 5, .inr 6] follows S5 rfl (by kernel_rfl) ?_ ?_
          · refine ⟨⟨⟨⟨⟨⟨⟨⟨trivial, ?_⟩, ?_⟩, ?_⟩, ?_⟩, ?_⟩, ?_⟩, ?_⟩, ?_⟩
            · exact owe_move rfl (wants_all rfl) (Or.inl rfl) (opnd_slot 3 5 rfl (by kernel_rfl)) rfl
            · exact owe_move rfl (wants_all rfl) (Or.inl rfl) (opnd_op 0 37 (by kernel_rfl) rfl) rfl
            · exact owe_off 1 38 rfl rfl rfl (by kernel_rfl) rfl (by decide)
            · exact owe_off 1 38 rfl rfl rfl (by kernel_rfl) rfl (by decide)
            · exact owe_off 1 38 rfl rfl rfl (by kernel_rfl) rfl (by decide)
            · exact owe_off 1 38 rfl rfl rfl (by kernel_rfl) rfl (by decide)
            · exact owe_pick rfl (wants_all rfl) rfl (opnd_op 1 38 (by kernel_rfl) rfl) (fun h => nomatch h) (fun _ => (opnd_const _)) rfl
            · exact owe_move rfl (wants_all rfl) (Or.inr rfl) (opnd_op 6 43 (by kernel_rfl) rfl) rfl
          intro B6 a6 W6 S6
          replace S6 : Sta w 45 [] [(4, (Is (.bool false))), (29, (Is (.bool true))), (25, (Is (.bool false))), (16, (Is (.bool false))), (5, (Is (.bool false))), (0, (Is (str l))), (1, (Is (.int .i64 (i : Nat))))] B6 a6 W6 := S6
          refine wp_ret ?_
          refine inBlkR ?_
          refine thenR ?_
          exact end_one S6 rfl (res_tmp S6 0 4 rfl)
        · skip
          obtain rfl : r = false := by rw [← hr, goes_n hi1 h48 (by omega) hd]
          refine wp_stmt_seq [.val (Is (.int .i64 (i : Nat))),
      .val (Is (.bool true)),
      .val (Is (.bool true)),
      .val (Is (str l)),
      .val (Is (.int .u8 ((bt l 0 : Nat) : Int))),
      .val (Is (.bool false)),
      .val (Is (.bool false)),
      .val (Is (.bool false))] [] [.inl 7, .inr 0, .inr 1, .inr 2, .inr 3, .inr 4, .inr 5] follows S4 rfl (by kernel_rfl) ?_ ?_
          · refine ⟨⟨⟨⟨⟨⟨⟨⟨trivial, ?_⟩, ?_⟩, ?_⟩, ?_⟩, ?_⟩, ?_⟩, ?_⟩, ?_⟩
            · exact owe_move rfl (wants_all rfl) (Or.inl rfl) (opnd_slot 5 1 rfl (by kernel_rfl)) rfl
            · exact owe_bin rfl (wants_all rfl) rfl (opnd_op 0 30 (by kernel_rfl) rfl) (opnd_const _) rfl (fun ρ w h1 h2 => by exact run_eql_int_t ρ _ _ _ w _ _ (by omega) h1 h2)
            · exact owe_move rfl (wants_all rfl) (Or.inl rfl) (opnd_op 1 31 (by kernel_rfl) rfl) rfl
            · exact owe_move rfl (wants_if 2 32 rfl (by kernel_rfl) rfl) (Or.inl rfl) (opnd_slot 4 0 rfl (by kernel_rfl)) rfl
            · exact owe_two rfl (wants_if 2 32 rfl (by kernel_rfl) rfl) rfl (opnd_op 3 33 (by kernel_rfl) rfl) (opnd_const _) rfl (fun ρ w h1 h2 => run_idx ρ _ _ _ w l 0 (by omega) h1 h2)
            · exact owe_bin rfl (wants_if 2 32 rfl (by kernel_rfl) rfl) rfl (opnd_op 4 34 (by kernel_rfl) rfl) (opnd_const _) rfl (fun ρ w h1 h2 => by exact run_eql_u8_f ρ _ _ _ w _ _ (by omega) h1 h2)
            · exact owe_pick rfl (wants_all rfl) rfl (opnd_op 2 32 (by kernel_rfl) rfl) (fun _ => (opnd_op 5 35 (by kernel_rfl) rfl)) (fun h => nomatch h) rfl
            · exact owe_move rfl (wants_all rfl) (Or.inr rfl) (opnd_op 6 36 (by kernel_rfl) rfl) rfl
          intro B5 a5 W5 S5
          replace S5 : Sta w 45 [] [(29, (Is (.bool false))), (25, (Is (.bool false))), (16, (Is (.bool false))), (5, (Is (.bool false))), (4, (Is (.bool false))), (0, (Is (str l))), (1, (Is (.int .i64 (i : Nat))))] B5 a5 W5 := S5
          refine wp_cond_false (S5.bool 0 29 rfl) ?_
          refine wp_skip ?_
          refine inBlkN ?_
          refine thenN ?_
          refine wp_stmt_seq [.val (Is (.bool false)),
      .val (Is (.bool false))] [] [.inl 1, .inr 0, .inr 1, .inr 2, .inr 3, .inr 5, .inr 6] follows S5 rfl (by kernel_rfl) ?_ ?_
          · refine ⟨⟨trivial, ?_⟩, ?_⟩
            · exact owe_move rfl (wants_all rfl) (Or.inl rfl) (opnd_slot 3 5 rfl (by kernel_rfl)) rfl
            · exact owe_move rfl (wants_all rfl) (Or.inr rfl) (opnd_op 0 44 (by kernel_rfl) rfl) rfl
          intro B6 a6 W6 S6
          replace S6 : Sta w 45 [] [(4, (Is (.bool false))), (29, (Is (.bool false))), (25, (Is (.bool false))), (16, (Is (.bool false))), (5, (Is (.bool false))), (0, (Is (str l))), (1, (Is (.int .i64 (i : Nat))))] B6 a6 W6 := S6
          refine wp_ret ?_
          exact end_one S6 rfl (res_tmp S6 0 4 rfl)
        · skip
          obtain rfl : r = false := by rw [← hr, goes_n hi1 h48 (by omega) hd]
          refine wp_stmt_seq [.val (Is (.int .i64 (i : Nat))),
      .val (Is (.bool false)),
      .val (Is (.bool false)),
      .off,
      .off,
      .off,
      .val (Is (.bool false)),
      .val (Is (.bool false))] [] [.inl 7, .inr 0, .inr 1, .inr 2, .inr 3, .inr 4, .inr 5] follows S4 rfl (by kernel_rfl) ?_ ?_
          · refine ⟨⟨⟨⟨⟨⟨⟨⟨trivial, ?_⟩, ?_⟩, ?_⟩, ?_⟩, ?_⟩, ?_⟩, ?_⟩, ?_⟩
            · exact owe_move rfl (wants_all rfl) (Or.inl rfl) (opnd_slot 5 1 rfl (by kernel_rfl)) rfl
            · exact owe_bin rfl (wants_all rfl) rfl (opnd_op 0 30 (by kernel_rfl) rfl) (opnd_const _) rfl (fun ρ w h1 h2 => by exact run_eql_int_f ρ _ _ _ w _ _ (by omega) h1 h2)
            · exact owe_move rfl (wants_all rfl) (Or.inl rfl) (opnd_op 1 31 (by kernel_rfl) rfl) rfl
            · exact owe_off 2 32 rfl rfl rfl (by kernel_rfl) rfl (by decide)
            · exact owe_off 2 32 rfl rfl rfl (by kernel_rfl) rfl (by decide)
            · exact owe_off 2 32 rfl rfl rfl (by kernel_rfl) rfl (by decide)
            · exact owe_pick rfl (wants_all rfl) rfl (opnd_op 2 32 (by kernel_rfl) rfl) (fun h => nomatch h) (fun _ => (opnd_const _)) rfl
            · exact owe_move rfl (wants_all rfl) (Or.inr rfl) (opnd_op 6 36 (by kernel_rfl) rfl) rfl
          intro B5 a5 W5 S5
          replace S5 : Sta w 45 [] [(29, (Is (.bool false))), (25, (Is (.bool false))), (16, (Is (.bool false))), (5, (Is (.bool false))), (4, (Is (.bool false))), (0, (Is (str l))), (1, (Is (.int .i64 (i : Nat))))] B5 a5 W5 := S5
          refine wp_cond_false (S5.bool 0 29 rfl) ?_
          refine wp_skip ?_
          refine inBlkN ?_
          refine thenN ?_
          refine wp_stmt_seq [.val (Is (.bool false)),
      .val (Is (.bool false))] [] [.inl 1, .inr 0, .inr 1, .inr 2, .inr 3, .inr 5, .inr 6] follows S5 rfl (by kernel_rfl) ?_ ?_
          · refine ⟨⟨trivial, ?_⟩, ?_⟩
            · exact owe_move rfl (wants_all rfl) (Or.inl rfl) (opnd_slot 3 5 rfl (by kernel_rfl)) rfl
            · exact owe_move rfl (wants_all rfl) (Or.inr rfl) (opnd_op 0 44 (by kernel_rfl) rfl) rfl
          intro B6 a6 W6 S6
          replace S6 : Sta w 45 [] [(4, (Is (.bool false))), (29, (Is (.bool false))), (25, (Is (.bool false))), (16, (Is (.bool false))), (5, (Is (.bool false))), (0, (Is (str l))), (1, (Is (.int .i64 (i : Nat))))] B6 a6 W6 := S6
          refine wp_ret ?_
          exact end_one S6 rfl (res_tmp S6 0 4 rfl)

set_option maxHeartbeats 400000 in
theorem hasp_t (w : World) (l : List UInt8) (h : isN l = true) :
    Calls Tryd.prog 69 #[str l, str ([45])] w (Gives (IS (.bool true)) w) := by
  obtain ⟨hp, _⟩ := isN_t h
  refine calls_sta (sl := [(0, (Is (str l))), (1, (Is (str ([45]))))]) Tryd.func69 rfl Tryd.ntmps69 (by simp) (args_cons rfl (is_has _) (args_cons rfl (is_has _) args_nil)) ?_
  intro a0 S0
  refine wp_stmt_seq [.val (Is (.bool false))] [] [.inl 0, .inr 0, .inr 1] follows S0 rfl (by kernel_rfl) ?_ ?_
  · refine ⟨trivial, ?_⟩
    · exact owe_move rfl (wants_all rfl) (Or.inr rfl) (opnd_const _) rfl
  intro B1 a1 W1 S1
  replace S1 : Sta w 18 [] [(4, (Is (.bool false))), (0, (Is (str l))), (1, (Is (str ([45]))))] B1 a1 W1 := S1
  refine wp_stmt_seq [.val (Is (str l)),
      .val (Is (.int .i64 ((l).length : Nat))),
      .val (Is (str ([45]))),
      .val (Is (.int .i64 (([45]).length : Nat))),
      .val (Is (.bool true)),
      .val (Is (.bool true)),
      .val (Is (str l)),
      .val (Is (str ([45]))),
      .val (Is (.int .i64 (([45]).length : Nat))),
      .val (Is (str (l.take (([45] : List UInt8).length)))),
      .val (Is (str ([45]))),
      .val (Is (.bool true)),
      .val (Is (.bool true)),
      .val (Is (.bool true))] [] [.inl 13] follows S1 rfl (by kernel_rfl) ?_ ?_
  · refine ⟨⟨⟨⟨⟨⟨⟨⟨⟨⟨⟨⟨⟨⟨trivial, ?_⟩, ?_⟩, ?_⟩, ?_⟩, ?_⟩, ?_⟩, ?_⟩, ?_⟩, ?_⟩, ?_⟩, ?_⟩, ?_⟩, ?_⟩, ?_⟩
    · exact owe_move rfl (wants_all rfl) (Or.inl rfl) (opnd_slot 1 0 rfl (by kernel_rfl)) rfl
    · exact owe_un (x := .tmp 5) rfl (wants_all rfl) rfl (opnd_op 0 5 (by kernel_rfl) rfl) rfl (fun ρ w h1 => run_lens ρ _ _ w _ h1)
    · exact owe_move rfl (wants_all rfl) (Or.inl rfl) (opnd_slot 2 1 rfl (by kernel_rfl)) rfl
    · exact owe_un (x := .tmp 7) rfl (wants_all rfl) rfl (opnd_op 2 7 (by kernel_rfl) rfl) rfl (fun ρ w h1 => run_lens ρ _ _ w _ h1)
    · exact owe_bin rfl (wants_all rfl) rfl (opnd_op 1 6 (by kernel_rfl) rfl) (opnd_op 3 8 (by kernel_rfl) rfl) rfl (fun ρ w h1 h2 => by exact run_geq_int_t ρ _ _ _ w _ _ (by have h45 : ([45] : List UInt8).length = 1 := rfl; omega) h1 h2)
    · exact owe_move rfl (wants_all rfl) (Or.inl rfl) (opnd_op 4 9 (by kernel_rfl) rfl) rfl
    · exact owe_move rfl (wants_if 5 10 rfl (by kernel_rfl) rfl) (Or.inl rfl) (opnd_slot 1 0 rfl (by kernel_rfl)) rfl
    · exact owe_move rfl (wants_if 5 10 rfl (by kernel_rfl) rfl) (Or.inl rfl) (opnd_slot 2 1 rfl (by kernel_rfl)) rfl
    · exact owe_un (x := .tmp 12) rfl (wants_if 5 10 rfl (by kernel_rfl) rfl) rfl (opnd_op 7 12 (by kernel_rfl) rfl) rfl (fun ρ w h1 => run_lens ρ _ _ w _ h1)
    · exact owe_two rfl (wants_if 5 10 rfl (by kernel_rfl) rfl) rfl (opnd_op 6 11 (by kernel_rfl) rfl) (opnd_op 8 13 (by kernel_rfl) rfl) rfl (fun ρ w h1 h2 => run_shi ρ _ _ _ w _ (([45] : List UInt8).length) (by have h45 : ([45] : List UInt8).length = 1 := rfl; omega) h1 h2)
    · exact owe_move rfl (wants_if 5 10 rfl (by kernel_rfl) rfl) (Or.inl rfl) (opnd_slot 2 1 rfl (by kernel_rfl)) rfl
    · exact owe_bin rfl (wants_if 5 10 rfl (by kernel_rfl) rfl) rfl (opnd_op 9 14 (by kernel_rfl) rfl) (opnd_op 10 15 (by kernel_rfl) rfl) rfl (fun ρ w h1 h2 => by exact run_eql_string_t ρ _ _ _ w _ _ (take_is h) h1 h2)
    · exact owe_pick rfl (wants_all rfl) rfl (opnd_op 5 10 (by kernel_rfl) rfl) (fun _ => (opnd_op 11 16 (by kernel_rfl) rfl)) (fun h => nomatch h) rfl
    · exact owe_move rfl (wants_all rfl) (Or.inr rfl) (opnd_op 12 17 (by kernel_rfl) rfl) rfl
  intro B2 a2 W2 S2
  replace S2 : Sta w 18 [] [(4, (Is (.bool true)))] B2 a2 W2 := S2
  refine wp_ret ?_
  exact end_one S2 rfl (res_tmp S2 0 4 rfl)

set_option maxHeartbeats 400000 in
theorem hasp_f (w : World) (l : List UInt8) (hp : 0 < l.length) (h : isN l = false) :
    Calls Tryd.prog 69 #[str l, str ([45])] w (Gives (IS (.bool false)) w) := by
  refine calls_sta (sl := [(0, (Is (str l))), (1, (Is (str ([45]))))]) Tryd.func69 rfl Tryd.ntmps69 (by simp) (args_cons rfl (is_has _) (args_cons rfl (is_has _) args_nil)) ?_
  intro a0 S0
  refine wp_stmt_seq [.val (Is (.bool false))] [] [.inl 0, .inr 0, .inr 1] follows S0 rfl (by kernel_rfl) ?_ ?_
  · refine ⟨trivial, ?_⟩
    · exact owe_move rfl (wants_all rfl) (Or.inr rfl) (opnd_const _) rfl
  intro B1 a1 W1 S1
  replace S1 : Sta w 18 [] [(4, (Is (.bool false))), (0, (Is (str l))), (1, (Is (str ([45]))))] B1 a1 W1 := S1
  refine wp_stmt_seq [.val (Is (str l)),
      .val (Is (.int .i64 ((l).length : Nat))),
      .val (Is (str ([45]))),
      .val (Is (.int .i64 (([45]).length : Nat))),
      .val (Is (.bool true)),
      .val (Is (.bool true)),
      .val (Is (str l)),
      .val (Is (str ([45]))),
      .val (Is (.int .i64 (([45]).length : Nat))),
      .val (Is (str (l.take (([45] : List UInt8).length)))),
      .val (Is (str ([45]))),
      .val (Is (.bool false)),
      .val (Is (.bool false)),
      .val (Is (.bool false))] [] [.inl 13] follows S1 rfl (by kernel_rfl) ?_ ?_
  · refine ⟨⟨⟨⟨⟨⟨⟨⟨⟨⟨⟨⟨⟨⟨trivial, ?_⟩, ?_⟩, ?_⟩, ?_⟩, ?_⟩, ?_⟩, ?_⟩, ?_⟩, ?_⟩, ?_⟩, ?_⟩, ?_⟩, ?_⟩, ?_⟩
    · exact owe_move rfl (wants_all rfl) (Or.inl rfl) (opnd_slot 1 0 rfl (by kernel_rfl)) rfl
    · exact owe_un (x := .tmp 5) rfl (wants_all rfl) rfl (opnd_op 0 5 (by kernel_rfl) rfl) rfl (fun ρ w h1 => run_lens ρ _ _ w _ h1)
    · exact owe_move rfl (wants_all rfl) (Or.inl rfl) (opnd_slot 2 1 rfl (by kernel_rfl)) rfl
    · exact owe_un (x := .tmp 7) rfl (wants_all rfl) rfl (opnd_op 2 7 (by kernel_rfl) rfl) rfl (fun ρ w h1 => run_lens ρ _ _ w _ h1)
    · exact owe_bin rfl (wants_all rfl) rfl (opnd_op 1 6 (by kernel_rfl) rfl) (opnd_op 3 8 (by kernel_rfl) rfl) rfl (fun ρ w h1 h2 => by exact run_geq_int_t ρ _ _ _ w _ _ (by have h45 : ([45] : List UInt8).length = 1 := rfl; omega) h1 h2)
    · exact owe_move rfl (wants_all rfl) (Or.inl rfl) (opnd_op 4 9 (by kernel_rfl) rfl) rfl
    · exact owe_move rfl (wants_if 5 10 rfl (by kernel_rfl) rfl) (Or.inl rfl) (opnd_slot 1 0 rfl (by kernel_rfl)) rfl
    · exact owe_move rfl (wants_if 5 10 rfl (by kernel_rfl) rfl) (Or.inl rfl) (opnd_slot 2 1 rfl (by kernel_rfl)) rfl
    · exact owe_un (x := .tmp 12) rfl (wants_if 5 10 rfl (by kernel_rfl) rfl) rfl (opnd_op 7 12 (by kernel_rfl) rfl) rfl (fun ρ w h1 => run_lens ρ _ _ w _ h1)
    · exact owe_two rfl (wants_if 5 10 rfl (by kernel_rfl) rfl) rfl (opnd_op 6 11 (by kernel_rfl) rfl) (opnd_op 8 13 (by kernel_rfl) rfl) rfl (fun ρ w h1 h2 => run_shi ρ _ _ _ w _ (([45] : List UInt8).length) (by have h45 : ([45] : List UInt8).length = 1 := rfl; omega) h1 h2)
    · exact owe_move rfl (wants_if 5 10 rfl (by kernel_rfl) rfl) (Or.inl rfl) (opnd_slot 2 1 rfl (by kernel_rfl)) rfl
    · exact owe_bin rfl (wants_if 5 10 rfl (by kernel_rfl) rfl) rfl (opnd_op 9 14 (by kernel_rfl) rfl) (opnd_op 10 15 (by kernel_rfl) rfl) rfl (fun ρ w h1 h2 => by exact run_eql_string_f ρ _ _ _ w _ _ (take_no hp h) h1 h2)
    · exact owe_pick rfl (wants_all rfl) rfl (opnd_op 5 10 (by kernel_rfl) rfl) (fun _ => (opnd_op 11 16 (by kernel_rfl) rfl)) (fun h => nomatch h) rfl
    · exact owe_move rfl (wants_all rfl) (Or.inr rfl) (opnd_op 12 17 (by kernel_rfl) rfl) rfl
  intro B2 a2 W2 S2
  replace S2 : Sta w 18 [] [(4, (Is (.bool false)))] B2 a2 W2 := S2
  refine wp_ret ?_
  exact end_one S2 rfl (res_tmp S2 0 4 rfl)

set_option maxHeartbeats 400000 in
theorem hasp_0 (w : World) (l : List UInt8) (hp : l.length = 0) :
    Calls Tryd.prog 69 #[str l, str ([45])] w (Gives (IS (.bool false)) w) := by
  refine calls_sta (sl := [(0, (Is (str l))), (1, (Is (str ([45]))))]) Tryd.func69 rfl Tryd.ntmps69 (by simp) (args_cons rfl (is_has _) (args_cons rfl (is_has _) args_nil)) ?_
  intro a0 S0
  refine wp_stmt_seq [.val (Is (.bool false))] [] [.inl 0, .inr 0, .inr 1] follows S0 rfl (by kernel_rfl) ?_ ?_
  · refine ⟨trivial, ?_⟩
    · exact owe_move rfl (wants_all rfl) (Or.inr rfl) (opnd_const _) rfl
  intro B1 a1 W1 S1
  replace S1 : Sta w 18 [] [(4, (Is (.bool false))), (0, (Is (str l))), (1, (Is (str ([45]))))] B1 a1 W1 := S1
  refine wp_stmt_seq [.val (Is (str l)),
      .val (Is (.int .i64 ((l).length : Nat))),
      .val (Is (str ([45]))),
      .val (Is (.int .i64 (([45]).length : Nat))),
      .val (Is (.bool false)),
      .val (Is (.bool false)),
      .off,
      .off,
      .off,
      .off,
      .off,
      .off,
      .val (Is (.bool false)),
      .val (Is (.bool false))] [] [.inl 13] follows S1 rfl (by kernel_rfl) ?_ ?_
  · refine ⟨⟨⟨⟨⟨⟨⟨⟨⟨⟨⟨⟨⟨⟨trivial, ?_⟩, ?_⟩, ?_⟩, ?_⟩, ?_⟩, ?_⟩, ?_⟩, ?_⟩, ?_⟩, ?_⟩, ?_⟩, ?_⟩, ?_⟩, ?_⟩
    · exact owe_move rfl (wants_all rfl) (Or.inl rfl) (opnd_slot 1 0 rfl (by kernel_rfl)) rfl
    · exact owe_un (x := .tmp 5) rfl (wants_all rfl) rfl (opnd_op 0 5 (by kernel_rfl) rfl) rfl (fun ρ w h1 => run_lens ρ _ _ w _ h1)
    · exact owe_move rfl (wants_all rfl) (Or.inl rfl) (opnd_slot 2 1 rfl (by kernel_rfl)) rfl
    · exact owe_un (x := .tmp 7) rfl (wants_all rfl) rfl (opnd_op 2 7 (by kernel_rfl) rfl) rfl (fun ρ w h1 => run_lens ρ _ _ w _ h1)
    · exact owe_bin rfl (wants_all rfl) rfl (opnd_op 1 6 (by kernel_rfl) rfl) (opnd_op 3 8 (by kernel_rfl) rfl) rfl (fun ρ w h1 h2 => by exact run_geq_int_f ρ _ _ _ w _ _ (by have h45 : ([45] : List UInt8).length = 1 := rfl; omega) h1 h2)
    · exact owe_move rfl (wants_all rfl) (Or.inl rfl) (opnd_op 4 9 (by kernel_rfl) rfl) rfl
    · exact owe_off 5 10 rfl rfl rfl (by kernel_rfl) rfl (by decide)
    · exact owe_off 5 10 rfl rfl rfl (by kernel_rfl) rfl (by decide)
    · exact owe_off 5 10 rfl rfl rfl (by kernel_rfl) rfl (by decide)
    · exact owe_off 5 10 rfl rfl rfl (by kernel_rfl) rfl (by decide)
    · exact owe_off 5 10 rfl rfl rfl (by kernel_rfl) rfl (by decide)
    · exact owe_off 5 10 rfl rfl rfl (by kernel_rfl) rfl (by decide)
    · exact owe_pick rfl (wants_all rfl) rfl (opnd_op 5 10 (by kernel_rfl) rfl) (fun h => nomatch h) (fun _ => (opnd_const _)) rfl
    · exact owe_move rfl (wants_all rfl) (Or.inr rfl) (opnd_op 12 17 (by kernel_rfl) rfl) rfl
  intro B2 a2 W2 S2
  replace S2 : Sta w 18 [] [(4, (Is (.bool false)))] B2 a2 W2 := S2
  refine wp_ret ?_
  exact end_one S2 rfl (res_tmp S2 0 4 rfl)

theorem hasp_w (w : World) (l : List UInt8) : Calls Tryd.prog 69 #[str l, str [45]] w (Gives (IS (.bool (isN l))) w) := by
  cases e : isN l with
  | true => exact hasp_t w l e
  | false =>
    by_cases h : l.length = 0
    · exact hasp_0 w l h
    · exact hasp_f w l (by omega) e

set_option maxHeartbeats 400000 in
theorem trim_t (w : World) (l : List UInt8) (h : isN l = true) :
    Calls Tryd.prog 52 #[str l, str ([45])] w (Gives (IS (str (tl l))) w) := by
  have hh := hasp_w w l
  clear hh
  rw [tl_t h]
  obtain ⟨hp, _⟩ := isN_t h
  refine calls_sta (sl := [(0, (Is (str l))), (1, (Is (str ([45]))))]) Tryd.func52 rfl Tryd.ntmps52 (by simp) (args_cons rfl (is_has _) (args_cons rfl (is_has _) args_nil)) ?_
  intro a0 S0
  refine wp_stmt_seq [.val (Is (str []))] [] [.inl 0, .inr 0, .inr 1] follows S0 rfl (by kernel_rfl) ?_ ?_
  · refine ⟨trivial, ?_⟩
    · exact owe_move rfl (wants_all rfl) (Or.inr rfl) ((opnd_const _).imp (fun _ _ h => h)) rfl
  intro B1 a1 W1 S1
  replace S1 : Sta w 13 [] [(4, (Is (str []))), (0, (Is (str l))), (1, (Is (str ([45]))))] B1 a1 W1 := S1
  refine wp_seq ?_
  refine wp_stmt_seq [.val (Is (str l)),
      .val (Is (str ([45]))),
      .val (Is (.bool true))] [] [.inl 2, .inr 0, .inr 1, .inr 2] follows S1 rfl (by kernel_rfl) ?_ ?_
  · refine ⟨⟨⟨trivial, ?_⟩, ?_⟩, ?_⟩
    · exact owe_move rfl (wants_all rfl) (Or.inl rfl) (opnd_slot 1 0 rfl (by kernel_rfl)) rfl
    · exact owe_move rfl (wants_all rfl) (Or.inl rfl) (opnd_slot 2 1 rfl (by kernel_rfl)) rfl
    · exact owe_callh2 rfl (wants_all rfl) rfl (opnd_op 0 5 (by kernel_rfl) rfl) (opnd_op 1 6 (by kernel_rfl) rfl) (fresh_is _) rfl (fun args w => by go_simp) (fun w u v h1 h2 => by obtain rfl : u = _ := h1.now; obtain rfl : v = _ := h2.now; have := hasp_w w l; rw [h] at this; exact this)
  intro B2 a2 W2 S2
  replace S2 : Sta w 13 [] [(7, (Is (.bool true))), (4, (Is (str []))), (0, (Is (str l))), (1, (Is (str ([45]))))] B2 a2 W2 := S2
  refine wp_cond_true (S2.bool 0 7 rfl) ?_
  refine wp_stmt_seq [.val (Is (str l)),
      .val (Is (str ([45]))),
      .val (Is (.int .i64 (([45]).length : Nat))),
      .val (Is (str (l.drop (([45] : List UInt8).length)))),
      .val (Is (str (l.drop (([45] : List UInt8).length))))] [] [.inl 4, .inr 0, .inr 2, .inr 3] follows S2 rfl (by kernel_rfl) ?_ ?_
  · refine ⟨⟨⟨⟨⟨trivial, ?_⟩, ?_⟩, ?_⟩, ?_⟩, ?_⟩
    · exact owe_move rfl (wants_all rfl) (Or.inl rfl) (opnd_slot 2 0 rfl (by kernel_rfl)) rfl
    · exact owe_move rfl (wants_all rfl) (Or.inl rfl) (opnd_slot 3 1 rfl (by kernel_rfl)) rfl
    · exact owe_un (x := .tmp 9) rfl (wants_all rfl) rfl (opnd_op 1 9 (by kernel_rfl) rfl) rfl (fun ρ w h1 => run_lens ρ _ _ w _ h1)
    · exact owe_two rfl (wants_all rfl) rfl (opnd_op 0 8 (by kernel_rfl) rfl) (opnd_op 2 10 (by kernel_rfl) rfl) rfl (fun ρ w h1 h2 => run_slo ρ _ _ _ w _ (([45] : List UInt8).length) (by have h45 : ([45] : List UInt8).length = 1 := rfl; omega) h1 h2)
    · exact owe_move rfl (wants_all rfl) (Or.inr rfl) (opnd_op 3 11 (by kernel_rfl) rfl) rfl
  intro B3 a3 W3 S3
  replace S3 : Sta w 13 [] [(4, (Is (str (l.drop (([45] : List UInt8).length))))), (7, (Is (.bool true))), (0, (Is (str l))), (1, (Is (str ([45]))))] B3 a3 W3 := S3
  refine wp_ret ?_
  refine thenR ?_
  exact end_one S3 rfl (res_tmp S3 0 4 rfl)

set_option maxHeartbeats 400000 in
theorem trim_f (w : World) (l : List UInt8) (h : isN l = false) :
    Calls Tryd.prog 52 #[str l, str ([45])] w (Gives (IS (str (tl l))) w) := by
  have hh := hasp_w w l
  clear hh
  rw [tl_f h]
  refine calls_sta (sl := [(0, (Is (str l))), (1, (Is (str ([45]))))]) Tryd.func52 rfl Tryd.ntmps52 (by simp) (args_cons rfl (is_has _) (args_cons rfl (is_has _) args_nil)) ?_
  intro a0 S0
  refine wp_stmt_seq [.val (Is (str []))] [] [.inl 0, .inr 0, .inr 1] follows S0 rfl (by kernel_rfl) ?_ ?_
  · refine ⟨trivial, ?_⟩
    · exact owe_move rfl (wants_all rfl) (Or.inr rfl) ((opnd_const _).imp (fun _ _ h => h)) rfl
  intro B1 a1 W1 S1
  replace S1 : Sta w 13 [] [(4, (Is (str []))), (0, (Is (str l))), (1, (Is (str ([45]))))] B1 a1 W1 := S1
  refine wp_seq ?_
  refine wp_stmt_seq [.val (Is (str l)),
      .val (Is (str ([45]))),
      .val (Is (.bool false))] [] [.inl 2, .inr 0, .inr 1, .inr 2] follows S1 rfl (by kernel_rfl) ?_ ?_
  · refine ⟨⟨⟨trivial, ?_⟩, ?_⟩, ?_⟩
    · exact owe_move rfl (wants_all rfl) (Or.inl rfl) (opnd_slot 1 0 rfl (by kernel_rfl)) rfl
    · exact owe_move rfl (wants_all rfl) (Or.inl rfl) (opnd_slot 2 1 rfl (by kernel_rfl)) rfl
    · exact owe_callh2 rfl (wants_all rfl) rfl (opnd_op 0 5 (by kernel_rfl) rfl) (opnd_op 1 6 (by kernel_rfl) rfl) (fresh_is _) rfl (fun args w => by go_simp) (fun w u v h1 h2 => by obtain rfl : u = _ := h1.now; obtain rfl : v = _ := h2.now; have := hasp_w w l; rw [h] at this; exact this)
  intro B2 a2 W2 S2
  replace S2 : Sta w 13 [] [(7, (Is (.bool false))), (4, (Is (str []))), (0, (Is (str l))), (1, (Is (str ([45]))))] B2 a2 W2 := S2
  refine wp_cond_false (S2.bool 0 7 rfl) ?_
  refine wp_skip ?_
  refine thenN ?_
  refine wp_stmt_seq [.val (Is (str l)),
      .val (Is (str l))] [] [.inl 1, .inr 0, .inr 2, .inr 3] follows S2 rfl (by kernel_rfl) ?_ ?_
  · refine ⟨⟨trivial, ?_⟩, ?_⟩
    · exact owe_move rfl (wants_all rfl) (Or.inl rfl) (opnd_slot 2 0 rfl (by kernel_rfl)) rfl
    · exact owe_move rfl (wants_all rfl) (Or.inr rfl) (opnd_op 0 12 (by kernel_rfl) rfl) rfl
  intro B3 a3 W3 S3
  replace S3 : Sta w 13 [] [(4, (Is (str l))), (7, (Is (.bool false))), (0, (Is (str l))), (1, (Is (str ([45]))))] B3 a3 W3 := S3
  refine wp_ret ?_
  exact end_one S3 rfl (res_tmp S3 0 4 rfl)

set_option maxHeartbeats 400000 in
theorem trimp_w (w : World) (l : List UInt8) :
    Calls Tryd.prog 27 #[str l, str ([45])] w (Gives (IS (str (tl l))) w) := by
  refine calls_sta (sl := [(0, (Is (str l))), (1, (Is (str ([45]))))]) Tryd.func27 rfl Tryd.ntmps27 (by simp) (args_cons rfl (is_has _) (args_cons rfl (is_has _) args_nil)) ?_
  intro a0 S0
  refine wp_stmt_seq [.val (Is (str []))] [] [.inl 0, .inr 0, .inr 1] follows S0 rfl (by kernel_rfl) ?_ ?_
  · refine ⟨trivial, ?_⟩
    · exact owe_move rfl (wants_all rfl) (Or.inr rfl) ((opnd_const _).imp (fun _ _ h => h)) rfl
  intro B1 a1 W1 S1
  replace S1 : Sta w 8 [] [(4, (Is (str []))), (0, (Is (str l))), (1, (Is (str ([45]))))] B1 a1 W1 := S1
  refine wp_stmt_seq [.val (Is (str l)),
      .val (Is (str ([45]))),
      .val (Is (str (tl l))),
      .val (Is (str (tl l)))] [] [.inl 3] follows S1 rfl (by kernel_rfl) ?_ ?_
  · refine ⟨⟨⟨⟨trivial, ?_⟩, ?_⟩, ?_⟩, ?_⟩
    · exact owe_move rfl (wants_all rfl) (Or.inl rfl) (opnd_slot 1 0 rfl (by kernel_rfl)) rfl
    · exact owe_move rfl (wants_all rfl) (Or.inl rfl) (opnd_slot 2 1 rfl (by kernel_rfl)) rfl
    · exact owe_callh2 rfl (wants_all rfl) rfl (opnd_op 0 5 (by kernel_rfl) rfl) (opnd_op 1 6 (by kernel_rfl) rfl) (fresh_is _) rfl (fun args w => by go_simp) (fun w u v h1 h2 => by obtain rfl : u = _ := h1.now; obtain rfl : v = _ := h2.now; cases e : isN l with | true => exact trim_t w l e | false => exact trim_f w l e)
    · exact owe_move rfl (wants_all rfl) (Or.inr rfl) (opnd_op 2 7 (by kernel_rfl) rfl) rfl
  intro B2 a2 W2 S2
  replace S2 : Sta w 8 [] [(4, (Is (str (tl l))))] B2 a2 W2 := S2
  refine wp_ret ?_
  exact end_one S2 rfl (res_tmp S2 0 4 rfl)

set_option maxHeartbeats 1000000 in
theorem chunk_w (w : World) (l : List UInt8) (hd : ∀ j, j < l.length → dgB (bt l j) = true) (hl : l.length ≤ 9) :
    Calls Tryd.prog 54 #[str l] w (Gives (IS (.int .u32 (decV l : Nat))) w) := by
  refine calls_sta (sl := [(0, (Is (str l)))]) Tryd.func54 rfl Tryd.ntmps54 (by simp) (args_cons rfl (is_has _) args_nil) ?_
  intro a0 S0
  refine wp_stmt_seq [.val (Is (.int .u32 0))] [] [.inl 0, .inr 0] follows S0 rfl (by kernel_rfl) ?_ ?_
  · refine ⟨trivial, ?_⟩
    · exact owe_move rfl (wants_all rfl) (Or.inr rfl) (opnd_const _) rfl
  intro B1 a1 W1 S1
  replace S1 : Sta w 20 [] [(2, (Is (.int .u32 0))), (0, (Is (str l)))] B1 a1 W1 := S1
  refine wp_stmt_seq [.val (Is (.int .u32 0))] [] [.inl 0, .inr 0, .inr 1] follows S1 rfl (by kernel_rfl) ?_ ?_
  · refine ⟨trivial, ?_⟩
    · exact owe_move rfl (wants_all rfl) (Or.inr rfl) (opnd_const _) rfl
  intro B2 a2 W2 S2
  replace S2 : Sta w 20 [] [(3, (Is (.int .u32 0))), (2, (Is (.int .u32 0))), (0, (Is (str l)))] B2 a2 W2 := S2
  refine wp_seq ?_
  refine wp_stmt_seq [.val (Is (str l)),
      .val (Is (.int .i64 ((l).length : Nat))),
      .val (Is (.int .i64 0))] [] [.inl 1, .inl 2, .inr 0, .inr 1, .inr 2] follows S2 rfl (by kernel_rfl) ?_ ?_
  · refine ⟨⟨⟨trivial, ?_⟩, ?_⟩, ?_⟩
    · exact owe_move rfl (wants_all rfl) (Or.inl rfl) (opnd_slot 2 0 rfl (by kernel_rfl)) rfl
    · exact owe_un (x := .tmp 5) rfl (wants_all rfl) rfl (opnd_op 0 5 (by kernel_rfl) rfl) rfl (fun ρ w h1 => run_lens ρ _ _ w _ h1)
    · exact owe_move rfl (wants_all rfl) (Or.inl rfl) (opnd_const _) rfl
  intro B3 a3 W3 S3
  replace S3 : Sta w 20 [] [(6, (Is (.int .i64 ((l).length : Nat)))), (7, (Is (.int .i64 0))), (3, (Is (.int .u32 0))), (2, (Is (.int .u32 0))), (0, (Is (str l)))] B3 a3 W3 := S3
  refine wp_block ?_
  replace S3 : Sta w 20 [] [(6, (Is (.int .i64 ((l).length : Nat)))), (7, (Is (.int .i64 0))), (3, (Is (.int .u32 (decV (l.take 0) : Nat)))), (2, (Is (.int .u32 0))), (0, (Is (str l)))] B3 a3 W3 := S3.change 2 rfl (fun v w e => e)
  refine wp_loop_ghost (fun (k0 : Nat) a W => (k0 ≤ l.length) ∧ ∃ Bq, Sta w 20 [] [(6, (Is (.int .i64 ((l).length : Nat)))), (7, (Is (.int .i64 k0))), (3, (Is (.int .u32 (decV (l.take k0) : Nat)))), (0, (Is (str l)))] Bq a W) (fun (k0 : Nat) => l.length - k0) ?_ 0 ⟨Nat.zero_le _, B3, S3.sub [] [0, 1, 2, 4]⟩
  rintro k0 a4 W4 ⟨hcond, B4, S4⟩
  by_cases hlt : k0 < l.length
  · have hk := hd k0 (by omega)
    have hb := dgB_iff.1 hk
    have hst := decV_step (by omega) hk
    have h9 := take9 hd (k := k0 + 1) (by omega)
    refine wp_stmt_seq [.val (Is (.bool true))] [] [.inl 0, .inr 0, .inr 1, .inr 2, .inr 3] follows S4 rfl (by kernel_rfl) ?_ ?_
    · refine ⟨trivial, ?_⟩
      · exact owe_bin rfl (wants_all rfl) rfl (opnd_slot 1 7 rfl (by kernel_rfl)) (opnd_slot 0 6 rfl (by kernel_rfl)) rfl (fun ρ w h1 h2 => by exact run_lss_int_t ρ _ _ _ w _ _ (by omega) h1 h2)
    intro B5 a5 W5 S5
    replace S5 : Sta w 20 [] [(8, (Is (.bool true))), (6, (Is (.int .i64 ((l).length : Nat)))), (7, (Is (.int .i64 k0))), (3, (Is (.int .u32 (decV (l.take k0) : Nat)))), (0, (Is (str l)))] B5 a5 W5 := S5
    refine wp_seq ?_
    refine wp_cond_true (S5.bool 0 8 rfl) ?_
    refine wp_skip ?_
    refine thenN ?_
    refine wp_seq ?_
    refine wp_block ?_
    refine wp_stmt_seq [.val (Is (.int .i64 k0)),
      .val (Is (.int .i64 k0))] [] [.inl 1, .inr 0, .inr 1, .inr 2, .inr 3, .inr 4] follows S5 rfl (by kernel_rfl) ?_ ?_
    · refine ⟨⟨trivial, ?_⟩, ?_⟩
      · exact owe_move rfl (wants_all rfl) (Or.inl rfl) (opnd_slot 2 7 rfl (by kernel_rfl)) rfl
      · exact owe_move rfl (wants_all rfl) (Or.inr rfl) (opnd_op 0 9 (by kernel_rfl) rfl) rfl
    intro B6 a6 W6 S6
    replace S6 : Sta w 20 [] [(4, (Is (.int .i64 k0))), (8, (Is (.bool true))), (6, (Is (.int .i64 ((l).length : Nat)))), (7, (Is (.int .i64 k0))), (3, (Is (.int .u32 (decV (l.take k0) : Nat)))), (0, (Is (str l)))] B6 a6 W6 := S6
    refine wp_stmt [.val (Is (.int .u32 (decV (l.take k0) : Nat))),
      .val (Is (.int .u32 (10 * ((decV (l.take k0) : Nat) : Int)))),
      .val (Is (str l)),
      .val (Is (.int .i64 k0)),
      .val (Is (.int .u8 ((bt l k0 : Nat) : Int))),
      .val (Is (.int .u8 (((bt l k0 : Nat) : Int) - 48))),
      .val (Is (.int .u32 (((bt l k0 : Nat) : Int) - 48))),
      .val (Is (.int .u32 (decV (l.take (k0 + 1)) : Nat))),
      .val (Is (.int .u32 (decV (l.take (k0 + 1)) : Nat)))] [] [.inl 8, .inr 1, .inr 2, .inr 3, .inr 5] follows S6 rfl (by kernel_rfl) ?_ ?_
    · refine ⟨⟨⟨⟨⟨⟨⟨⟨⟨trivial, ?_⟩, ?_⟩, ?_⟩, ?_⟩, ?_⟩, ?_⟩, ?_⟩, ?_⟩, ?_⟩
      · exact owe_move rfl (wants_all rfl) (Or.inl rfl) (opnd_slot 4 3 rfl (by kernel_rfl)) rfl
      · exact owe_bin rfl (wants_all rfl) rfl (opnd_const _) (opnd_op 0 10 (by kernel_rfl) rfl) rfl (fun ρ w h1 h2 => by exact run_mul_u32 ρ _ _ _ w _ _ _ ⟨rfl, by omega, by omega⟩ h1 h2)
      · exact owe_move rfl (wants_all rfl) (Or.inl rfl) (opnd_slot 5 0 rfl (by kernel_rfl)) rfl
      · exact owe_move rfl (wants_all rfl) (Or.inl rfl) (opnd_slot 0 4 rfl (by kernel_rfl)) rfl
      · exact owe_two rfl (wants_all rfl) rfl (opnd_op 2 12 (by kernel_rfl) rfl) (opnd_op 3 13 (by kernel_rfl) rfl) rfl (fun ρ w h1 h2 => run_idx ρ _ _ _ w l k0 (by omega) h1 h2)
      · exact owe_bin rfl (wants_all rfl) rfl (opnd_op 4 14 (by kernel_rfl) rfl) (opnd_const _) rfl (fun ρ w h1 h2 => by exact run_sub_u8 ρ _ _ _ w _ _ _ ⟨rfl, by omega, by omega⟩ h1 h2)
      · exact owe_un (x := .tmp 15) rfl (wants_all rfl) rfl (opnd_op 5 15 (by kernel_rfl) rfl) rfl (fun ρ w h1 => by exact run_conv_8_32 ρ _ _ w _ ⟨by omega, by omega⟩ h1)
      · exact owe_bin rfl (wants_all rfl) rfl (opnd_op 1 11 (by kernel_rfl) rfl) (opnd_op 6 16 (by kernel_rfl) rfl) rfl (fun ρ w h1 h2 => by exact run_add_u32 ρ _ _ _ w _ _ _ ⟨by omega, by omega, by omega⟩ h1 h2)
      · exact owe_move rfl (wants_all rfl) (Or.inr rfl) (opnd_op 7 17 (by kernel_rfl) rfl) rfl
    intro B7 a7 W7 S7
    replace S7 : Sta w 20 [] [(3, (Is (.int .u32 (decV (l.take (k0 + 1)) : Nat)))), (8, (Is (.bool true))), (6, (Is (.int .i64 ((l).length : Nat)))), (7, (Is (.int .i64 k0))), (0, (Is (str l)))] B7 a7 W7 := S7
    refine inBlkN ?_
    refine thenN ?_
    refine wp_stmt [.val (Is (.int .i64 (k0 + 1 : Nat))),
      .val (Is (.int .i64 (k0 + 1 : Nat)))] [] [.inl 1, .inr 0, .inr 1, .inr 2, .inr 4] follows S7 rfl (by kernel_rfl) ?_ ?_
    · refine ⟨⟨trivial, ?_⟩, ?_⟩
      · exact owe_bin rfl (wants_all rfl) rfl (opnd_slot 3 7 rfl (by kernel_rfl)) (opnd_const _) rfl (fun ρ w h1 h2 => by exact run_add_int ρ _ _ _ w _ _ _ ⟨by omega, by omega, by omega⟩ h1 h2)
      · exact owe_move rfl (wants_all rfl) (Or.inl rfl) (opnd_op 0 18 (by kernel_rfl) rfl) rfl
    intro B8 a8 W8 S8
    replace S8 : Sta w 20 [] [(7, (Is (.int .i64 (k0 + 1 : Nat)))), (3, (Is (.int .u32 (decV (l.take (k0 + 1)) : Nat)))), (8, (Is (.bool true))), (6, (Is (.int .i64 ((l).length : Nat)))), (0, (Is (str l)))] B8 a8 W8 := S8
    refine thenN ?_
    exact ⟨k0 + 1, ⟨by omega, B8, S8.sub [] [3, 0, 1, 4]⟩, by omega⟩
  · have hend : l.take k0 = l := List.take_of_length_le (by omega)
    rw [hend] at S4
    refine wp_stmt_seq [.val (Is (.bool false))] [] [.inl 0, .inr 0, .inr 1, .inr 2, .inr 3] follows S4 rfl (by kernel_rfl) ?_ ?_
    · refine ⟨trivial, ?_⟩
      · exact owe_bin rfl (wants_all rfl) rfl (opnd_slot 1 7 rfl (by kernel_rfl)) (opnd_slot 0 6 rfl (by kernel_rfl)) rfl (fun ρ w h1 h2 => by exact run_lss_int_f ρ _ _ _ w _ _ (by omega) h1 h2)
    intro B5 a5 W5 S5
    replace S5 : Sta w 20 [] [(8, (Is (.bool false))), (6, (Is (.int .i64 ((l).length : Nat)))), (7, (Is (.int .i64 k0))), (3, (Is (.int .u32 (decV l : Nat)))), (0, (Is (str l)))] B5 a5 W5 := S5
    refine wp_seq ?_
    refine wp_cond_false (S5.bool 0 8 rfl) ?_
    refine wp_exit ?_
    refine thenX ?_
    refine thenX ?_
    refine inBlkE ?_
    refine thenN ?_
    refine wp_stmt_seq [.val (Is (.int .u32 (decV l : Nat))),
      .val (Is (.int .u32 (decV l : Nat)))] [] [.inl 1, .inr 0, .inr 1, .inr 2, .inr 3, .inr 4] follows S5 rfl (by kernel_rfl) ?_ ?_
    · refine ⟨⟨trivial, ?_⟩, ?_⟩
      · exact owe_move rfl (wants_all rfl) (Or.inl rfl) (opnd_slot 3 3 rfl (by kernel_rfl)) rfl
      · exact owe_move rfl (wants_all rfl) (Or.inr rfl) (opnd_op 0 19 (by kernel_rfl) rfl) rfl
    intro B6 a6 W6 S6
    replace S6 : Sta w 20 [] [(2, (Is (.int .u32 (decV l : Nat)))), (8, (Is (.bool false))), (6, (Is (.int .i64 ((l).length : Nat)))), (7, (Is (.int .i64 k0))), (3, (Is (.int .u32 (decV l : Nat)))), (0, (Is (str l)))] B6 a6 W6 := S6
    refine wp_ret ?_
    exact end_one S6 rfl (res_tmp S6 0 2 rfl)

set_option maxHeartbeats 2000000 in
theorem ofDigits_w (w : World) (l : List UInt8) (hd : ∀ j, j < l.length → dgB (bt l j) = true) (hl : l.length ≤ 65536) :
    Calls Tryd.prog 29 #[str l] w (Gives (NN (decV l)) w) := by
  refine calls_sta (sl := [(0, (Is (str l)))]) Tryd.func29 rfl Tryd.ntmps29 (by simp) (args_cons rfl (is_has _) args_nil) ?_
  intro a0 S0
  refine wp_stmt_seq [.val (Is (.slice none 0 0))] [] [.inl 0, .inr 0] follows S0 rfl (by kernel_rfl) ?_ ?_
  · refine ⟨trivial, ?_⟩
    · exact owe_move rfl (wants_all rfl) (Or.inr rfl) (opnd_const _) rfl
  intro B1 a1 W1 S1
  replace S1 : Sta w 27 [] [(2, (Is (.slice none 0 0))), (0, (Is (str l)))] B1 a1 W1 := S1
  refine wp_stmt_seq [.val ((NN (0)) w.heap.size),
      .val ((NN (0)) w.heap.size)] [] [.inl 1, .inr 0, .inr 1] follows S1 rfl (by kernel_rfl) ?_ ?_
  · refine ⟨⟨trivial, ?_⟩, ?_⟩
    · exact owe_nil0 rfl (wants_all rfl) rfl rfl
    · exact owe_move rfl (wants_all rfl) (Or.inr rfl) (opnd_op 0 5 (by kernel_rfl) rfl) rfl
  intro B2 a2 W2 S2
  replace S2 : Sta w 27 [] [(3, ((NN (0)) w.heap.size)), (2, (Is (.slice none 0 0))), (0, (Is (str l)))] B2 a2 W2 := S2
  refine wp_seq ?_
  refine wp_block ?_
  replace S2 : Sta w 27 [] [(3, ((NN (0)) w.heap.size)), (2, (Is (.slice none 0 0))), (0, (Is (str (l.drop 0))))] B2 a2 W2 := S2.change 2 rfl (fun v w e => e)
  replace S2 : Sta w 27 [] [(3, ((NN (decV (l.take 0))) w.heap.size)), (2, (Is (.slice none 0 0))), (0, (Is (str (l.drop 0))))] B2 a2 W2 := S2.change 0 rfl (fun v w h => h)
  refine wp_loop_ghost (fun (k0 : Nat) a W => (k0 ≤ l.length) ∧ ∃ Bq, Sta w 27 [] [(3, ((NN (decV (l.take k0))) w.heap.size)), (0, (Is (str (l.drop k0))))] Bq a W) (fun (k0 : Nat) => l.length - k0) ?_ 0 ⟨Nat.zero_le _, B2, S2.sub [] [0, 2]⟩
  rintro k0 a3 W3 ⟨hcond, B3, S3⟩
  by_cases hlt : k0 < l.length
  · have hdl : (l.drop k0).length = l.length - k0 := List.length_drop
    obtain ⟨c, hc⟩ : ∃ c, c = min 9 (l.length - k0) := ⟨_, rfl⟩
    have h9c : c ≤ 9 := by omega
    have hp9 : 10 ^ c < 4294967296 := by have := pow9 h9c; omega
    have hq1 : (digs (decV (l.take k0))).length ≤ 65536 := decV_dl (dig_take hd k0) (by simp; omega)
    have hq2 : (digs ((10 ^ c : Nat) * decV (l.take k0))).length ≤ 65537 := Nat.le_trans (digs_mul_len (digs_length_le (k := 1) (by omega)) hq1) (by omega)
    have h9t : decV ((l.drop k0).take c) < 4294967296 := by have := take9 (dig_drop hd k0) h9c; omega
    have hst : (10 ^ c : Nat) * decV (l.take k0) + decV ((l.drop k0).take c) = decV (l.take (k0 + c)) := by rw [decV_chunk (by omega), Nat.mul_comm]
    have hdd : (l.drop k0).drop c = l.drop (k0 + c) := by rw [List.drop_drop]
    refine wp_seq ?_
    refine wp_stmt_seq [.val (Is (str (l.drop k0))),
      .val (Is (.int .i64 ((l.drop k0).length : Nat))),
      .val (Is (.bool true))] [] [.inl 2, .inr 0, .inr 1] follows S3 rfl (by kernel_rfl) ?_ ?_
    · refine ⟨⟨⟨trivial, ?_⟩, ?_⟩, ?_⟩
      · exact owe_move rfl (wants_all rfl) (Or.inl rfl) (opnd_slot 1 0 rfl (by kernel_rfl)) rfl
      · exact owe_un (x := .tmp 6) rfl (wants_all rfl) rfl (opnd_op 0 6 (by kernel_rfl) rfl) rfl (fun ρ w h1 => run_lens ρ _ _ w _ h1)
      · exact owe_bin rfl (wants_all rfl) rfl (opnd_op 1 7 (by kernel_rfl) rfl) (opnd_const _) rfl (fun ρ w h1 h2 => by exact run_gtr_int_t ρ _ _ _ w _ _ (by omega) h1 h2)
    intro B4 a4 W4 S4
    replace S4 : Sta w 27 [] [(8, (Is (.bool true))), (3, ((NN (decV (l.take k0))) w.heap.size)), (0, (Is (str (l.drop k0))))] B4 a4 W4 := S4
    refine wp_cond_true (S4.bool 0 8 rfl) ?_
    refine wp_skip ?_
    refine thenN ?_
    refine wp_block ?_
    refine wp_stmt_seq [.val (Is (str (l.drop k0))),
      .val (Is (.int .i64 ((l.drop k0).length : Nat))),
      .val (Is (.int .i64 (c : Nat))),
      .val (Is (.int .i64 (c : Nat)))] [] [.inl 3, .inr 0, .inr 1, .inr 2] follows S4 rfl (by kernel_rfl) ?_ ?_
    · refine ⟨⟨⟨⟨trivial, ?_⟩, ?_⟩, ?_⟩, ?_⟩
      · exact owe_move rfl (wants_all rfl) (Or.inl rfl) (opnd_slot 2 0 rfl (by kernel_rfl)) rfl
      · exact owe_un (x := .tmp 9) rfl (wants_all rfl) rfl (opnd_op 0 9 (by kernel_rfl) rfl) rfl (fun ρ w h1 => run_lens ρ _ _ w _ h1)
      · exact owe_two rfl (wants_all rfl) rfl (opnd_const _) (opnd_op 1 10 (by kernel_rfl) rfl) rfl (fun ρ w h1 h2 => run_min_int ρ _ _ _ w _ _ _ (by omega) h1 h2)
      · exact owe_move rfl (wants_all rfl) (Or.inr rfl) (opnd_op 2 11 (by kernel_rfl) rfl) rfl
    intro B5 a5 W5 S5
    replace S5 : Sta w 27 [] [(4, (Is (.int .i64 (c : Nat)))), (8, (Is (.bool true))), (3, ((NN (decV (l.take k0))) w.heap.size)), (0, (Is (str (l.drop k0))))] B5 a5 W5 := S5
    refine wp_stmt_seq [.val (Is (.int .i64 (c : Nat))),
      .val (Is (.int .u32 (10 ^ c : Nat))),
      .val ((BS (10 ^ c : Nat)) w.heap.size),
      .val ((NN (decV (l.take k0))) w.heap.size),
      .val ((NN ((10 ^ c : Nat) * (decV (l.take k0)))) w.heap.size),
      .val (Is (str (l.drop k0))),
      .val (Is (.int .i64 (c : Nat))),
      .val (Is (str ((l.drop k0).take c))),
      .val (Is (.int .u32 (decV ((l.drop k0).take c) : Nat))),
      .val ((BS (decV ((l.drop k0).take c) : Nat)) w.heap.size),
      .val ((NN (decV (l.take (k0 + c)))) w.heap.size),
      .val ((NN (decV (l.take (k0 + c)))) w.heap.size)] [] [.inl 11, .inr 0, .inr 1, .inr 3] follows S5 rfl (by kernel_rfl) ?_ ?_
    · refine ⟨⟨⟨⟨⟨⟨⟨⟨⟨⟨⟨⟨trivial, ?_⟩, ?_⟩, ?_⟩, ?_⟩, ?_⟩, ?_⟩, ?_⟩, ?_⟩, ?_⟩, ?_⟩, ?_⟩, ?_⟩
      · exact owe_move rfl (wants_all rfl) (Or.inl rfl) (opnd_slot 0 4 rfl (by kernel_rfl)) rfl
      · exact owe_call1 rfl (wants_all rfl) rfl (opnd_op 0 12 (by kernel_rfl) rfl) (fresh_is _) rfl (fun args w => by go_simp) (g_worth h9c)
      · exact owe_bs rfl (wants_all rfl) rfl (opnd_op 1 13 (by kernel_rfl) rfl) hp9 rfl
      · exact owe_move rfl (wants_all rfl) (Or.inl rfl) (opnd_slot 2 3 rfl (by kernel_rfl)) rfl
      · exact owe_call2 rfl (wants_all rfl) rfl (opnd_op 2 14 (by kernel_rfl) rfl) (opnd_op 3 15 (by kernel_rfl) rfl) (fresh_nn _) rfl (fun args w => by go_simp) (fun w u v h1 h2 => g_mul (by omega) w u v (bs_nv _ _ h1) ((nn_nv hq1) _ _ h2))
      · exact owe_move rfl (wants_all rfl) (Or.inl rfl) (opnd_slot 3 0 rfl (by kernel_rfl)) rfl
      · exact owe_move rfl (wants_all rfl) (Or.inl rfl) (opnd_slot 0 4 rfl (by kernel_rfl)) rfl
      · exact owe_two rfl (wants_all rfl) rfl (opnd_op 5 17 (by kernel_rfl) rfl) (opnd_op 6 18 (by kernel_rfl) rfl) rfl (fun ρ w h1 h2 => run_shi ρ _ _ _ w _ c (by omega) h1 h2)
      · exact owe_callh1 rfl (wants_all rfl) rfl (opnd_op 7 19 (by kernel_rfl) rfl) (fresh_is _) rfl (fun args w => by go_simp) (fun w u h => by obtain rfl : u = _ := h.now; exact chunk_w w _ (dig_take (dig_drop hd k0) c) (by simp; omega))
      · exact owe_bs rfl (wants_all rfl) rfl (opnd_op 8 20 (by kernel_rfl) rfl) h9t rfl
      · exact owe_call2 rfl (wants_all rfl) rfl (opnd_op 4 16 (by kernel_rfl) rfl) (opnd_op 9 21 (by kernel_rfl) rfl) (fresh_nn _) rfl (fun args w => by go_simp) (fun w u0 u1 h0 h1 => Gives.cast ((fun w u v h1 h2 => g_add (by omega) (by omega) w u v ((nn_nv (Nat.le_refl _)) _ _ h1) (bs_nv _ _ h2)) w u0 u1 h0 h1) (by rw [hst]))
      · exact owe_move rfl (wants_all rfl) (Or.inr rfl) (opnd_op 10 22 (by kernel_rfl) rfl) rfl
    intro B6 a6 W6 S6
    replace S6 : Sta w 27 [] [(3, ((NN (decV (l.take (k0 + c)))) w.heap.size)), (4, (Is (.int .i64 (c : Nat)))), (8, (Is (.bool true))), (0, (Is (str (l.drop k0))))] B6 a6 W6 := S6
    refine wp_stmt [.val (Is (str (l.drop k0))),
      .val (Is (.int .i64 (c : Nat))),
      .val (Is (str (l.drop (k0 + c)))),
      .val (Is (str (l.drop (k0 + c))))] [] [.inl 3, .inr 0, .inr 1, .inr 2] follows S6 rfl (by kernel_rfl) ?_ ?_
    · refine ⟨⟨⟨⟨trivial, ?_⟩, ?_⟩, ?_⟩, ?_⟩
      · exact owe_move rfl (wants_all rfl) (Or.inl rfl) (opnd_slot 3 0 rfl (by kernel_rfl)) rfl
      · exact owe_move rfl (wants_all rfl) (Or.inl rfl) (opnd_slot 1 4 rfl (by kernel_rfl)) rfl
      · exact owe_two rfl (wants_all rfl) rfl (opnd_op 0 23 (by kernel_rfl) rfl) (opnd_op 1 24 (by kernel_rfl) rfl) rfl (fun ρ w h1 h2 => by rw [← hdd]; exact run_slo ρ _ _ _ w _ c (by omega) h1 h2)
      · exact owe_move rfl (wants_all rfl) (Or.inr rfl) (opnd_op 2 25 (by kernel_rfl) rfl) rfl
    intro B7 a7 W7 S7
    replace S7 : Sta w 27 [] [(0, (Is (str (l.drop (k0 + c))))), (3, ((NN (decV (l.take (k0 + c)))) w.heap.size)), (4, (Is (.int .i64 (c : Nat)))), (8, (Is (.bool true)))] B7 a7 W7 := S7
    refine inBlkN ?_
    refine thenN ?_
    exact ⟨k0 + c, ⟨by omega, B7, S7.sub [] [1, 0]⟩, by omega⟩
  · have hdl : (l.drop k0).length = l.length - k0 := List.length_drop
    have hend : l.take k0 = l := List.take_of_length_le (by omega)
    rw [hend] at S3
    refine wp_seq ?_
    refine wp_stmt_seq [.val (Is (str (l.drop k0))),
      .val (Is (.int .i64 ((l.drop k0).length : Nat))),
      .val (Is (.bool false))] [] [.inl 2, .inr 0, .inr 1] follows S3 rfl (by kernel_rfl) ?_ ?_
    · refine ⟨⟨⟨trivial, ?_⟩, ?_⟩, ?_⟩
      · exact owe_move rfl (wants_all rfl) (Or.inl rfl) (opnd_slot 1 0 rfl (by kernel_rfl)) rfl
      · exact owe_un (x := .tmp 6) rfl (wants_all rfl) rfl (opnd_op 0 6 (by kernel_rfl) rfl) rfl (fun ρ w h1 => run_lens ρ _ _ w _ h1)
      · exact owe_bin rfl (wants_all rfl) rfl (opnd_op 1 7 (by kernel_rfl) rfl) (opnd_const _) rfl (fun ρ w h1 h2 => by exact run_gtr_int_f ρ _ _ _ w _ _ (by omega) h1 h2)
    intro B4 a4 W4 S4
    replace S4 : Sta w 27 [] [(8, (Is (.bool false))), (3, ((NN (decV l)) w.heap.size)), (0, (Is (str (l.drop k0))))] B4 a4 W4 := S4
    refine wp_cond_false (S4.bool 0 8 rfl) ?_
    refine wp_exit ?_
    refine thenX ?_
    refine thenX ?_
    refine inBlkE ?_
    refine thenN ?_
    refine wp_stmt_seq [.val ((NN (decV l)) w.heap.size),
      .val ((NN (decV l)) w.heap.size)] [] [.inl 1, .inr 0, .inr 1, .inr 2] follows S4 rfl (by kernel_rfl) ?_ ?_
    · refine ⟨⟨trivial, ?_⟩, ?_⟩
      · exact owe_move rfl (wants_all rfl) (Or.inl rfl) (opnd_slot 1 3 rfl (by kernel_rfl)) rfl
      · exact owe_move rfl (wants_all rfl) (Or.inr rfl) (opnd_op 0 26 (by kernel_rfl) rfl) rfl
    intro B5 a5 W5 S5
    replace S5 : Sta w 27 [] [(2, ((NN (decV l)) w.heap.size)), (8, (Is (.bool false))), (3, ((NN (decV l)) w.heap.size)), (0, (Is (str (l.drop k0))))] B5 a5 W5 := S5
    refine wp_ret ?_
    exact end_one S5 rfl (res_tmp S5 0 2 rfl)

set_option maxHeartbeats 400000 in
theorem zread_long (w : World) (l : List UInt8) (h : 65536 < l.length) :
    Calls Tryd.prog 8 #[str l] w (Gives (THREE (IS (.agg #[.bool false, .slice none 0 0])) (IS (.int .i64 0)) (IS (.int .i64 2))) w) := by
  refine calls_sta (sl := [(0, (Is (str l)))]) Tryd.func8 rfl Tryd.ntmps8 (by simp) (args_cons rfl (is_has _) args_nil) ?_
  intro a0 S0
  refine wp_stmt_seq [.new (.box 24 (Is (.agg #[.bool false, .slice none 0 0]))),
      .val (Is (.int .i64 0)),
      .val (Is (.int .i64 0))] [.inl 0] [.inl 1, .inl 2, .inr 0] follows S0 rfl (by kernel_rfl) ?_ ?_
  · refine ⟨⟨⟨trivial, ?_⟩, ?_⟩, ?_⟩
    · exact owe_new rfl (wants_all rfl) rfl rfl (fun ρ w => alloc_int ρ _ w)
    · exact owe_move rfl (wants_all rfl) (Or.inr rfl) (opnd_const _) rfl
    · exact owe_move rfl (wants_all rfl) (Or.inr rfl) (opnd_const _) rfl
  intro B1 a1 W1 S1
  replace S1 : Sta w 36 [(2, (.box 24 (Is (.agg #[.bool false, .slice none 0 0]))))] [(3, (Is (.int .i64 0))), (4, (Is (.int .i64 0))), (0, (Is (str l)))] B1 a1 W1 := S1
  refine wp_seq ?_
  refine wp_stmt_seq [.val (Is (str l)),
      .val (Is (.int .i64 ((l).length : Nat))),
      .val (Is (.bool true))] [.inr 0] [.inl 2, .inr 0, .inr 1, .inr 2] follows S1 rfl (by kernel_rfl) ?_ ?_
  · refine ⟨⟨⟨trivial, ?_⟩, ?_⟩, ?_⟩
    · exact owe_move rfl (wants_all rfl) (Or.inl rfl) (opnd_slot 2 0 rfl (by kernel_rfl)) rfl
    · exact owe_un (x := .tmp 7) rfl (wants_all rfl) rfl (opnd_op 0 7 (by kernel_rfl) rfl) rfl (fun ρ w h1 => run_lens ρ _ _ w _ h1)
    · exact owe_bin rfl (wants_all rfl) rfl (opnd_op 1 8 (by kernel_rfl) rfl) (opnd_const _) rfl (fun ρ w h1 h2 => by exact run_gtr_int_t ρ _ _ _ w _ _ (by omega) h1 h2)
  intro B2 a2 W2 S2
  replace S2 : Sta w 36 [(2, (.box 24 (Is (.agg #[.bool false, .slice none 0 0]))))] [(9, (Is (.bool true))), (3, (Is (.int .i64 0))), (4, (Is (.int .i64 0))), (0, (Is (str l)))] B2 a2 W2 := S2
  refine wp_cond_true (S2.bool 0 9 rfl) ?_
  refine wp_stmt_seq [.val (Is (.agg #[.bool false, .slice none 0 0])),
      .put (.inl 2) (.box 24 (Is (.agg #[.bool false, .slice none 0 0]))),
      .val (Is (.int .i64 0)),
      .val (Is (.int .i64 2))] [.inr 0] [.inl 2, .inl 3, .inr 0, .inr 3] follows S2 rfl (by kernel_rfl) ?_ ?_
  · refine ⟨⟨⟨⟨trivial, ?_⟩, ?_⟩, ?_⟩, ?_⟩
    · exact owe_build_int rfl (wants_all rfl) rfl rfl
    · exact owe_set rfl (wants_all rfl) rfl (k := 0) rfl (by kernel_rfl) (opnd_op 0 10 (by kernel_rfl) rfl) (stores_of strct_int shp_z0 shp_z0) rfl
    · exact owe_move rfl (wants_all rfl) (Or.inr rfl) (opnd_const _) rfl
    · exact owe_move rfl (wants_all rfl) (Or.inr rfl) (opnd_const _) rfl
  intro B3 a3 W3 S3
  replace S3 : Sta w 36 [(2, (.box 24 (Is (.agg #[.bool false, .slice none 0 0]))))] [(3, (Is (.int .i64 0))), (4, (Is (.int .i64 2))), (9, (Is (.bool true))), (0, (Is (str l)))] B3 a3 W3 := S3
  refine wp_ret ?_
  refine thenR ?_
  exact end_three S3 rfl (res_cell S3 0 2 rfl strct_int shp_z0) (res_tmp S3 0 3 rfl) (res_tmp S3 1 4 rfl)

set_option maxHeartbeats 1000000 in
theorem zread_bad (w : World) (l : List UInt8) (i : Nat) (hl : l.length ≤ 65536) (hi : i < l.length) (hg : goes l i = false) (hall : ∀ j, j < i → goes l j = true) :
    Calls Tryd.prog 8 #[str l] w (Gives (THREE (IS (.agg #[.bool false, .slice none 0 0])) (IS (.int .i64 (i : Nat))) (IS (.int .i64 4))) w) := by
  refine calls_sta (sl := [(0, (Is (str l)))]) Tryd.func8 rfl Tryd.ntmps8 (by simp) (args_cons rfl (is_has _) args_nil) ?_
  intro a0 S0
  refine wp_stmt_seq [.new (.box 24 (Is (.agg #[.bool false, .slice none 0 0]))),
      .val (Is (.int .i64 0)),
      .val (Is (.int .i64 0))] [.inl 0] [.inl 1, .inl 2, .inr 0] follows S0 rfl (by kernel_rfl) ?_ ?_
  · refine ⟨⟨⟨trivial, ?_⟩, ?_⟩, ?_⟩
    · exact owe_new rfl (wants_all rfl) rfl rfl (fun ρ w => alloc_int ρ _ w)
    · exact owe_move rfl (wants_all rfl) (Or.inr rfl) (opnd_const _) rfl
    · exact owe_move rfl (wants_all rfl) (Or.inr rfl) (opnd_const _) rfl
  intro B1 a1 W1 S1
  replace S1 : Sta w 36 [(2, (.box 24 (Is (.agg #[.bool false, .slice none 0 0]))))] [(3, (Is (.int .i64 0))), (4, (Is (.int .i64 0))), (0, (Is (str l)))] B1 a1 W1 := S1
  refine wp_seq ?_
  refine wp_stmt_seq [.val (Is (str l)),
      .val (Is (.int .i64 ((l).length : Nat))),
      .val (Is (.bool false))] [.inr 0] [.inl 2, .inr 0, .inr 1, .inr 2] follows S1 rfl (by kernel_rfl) ?_ ?_
  · refine ⟨⟨⟨trivial, ?_⟩, ?_⟩, ?_⟩
    · exact owe_move rfl (wants_all rfl) (Or.inl rfl) (opnd_slot 2 0 rfl (by kernel_rfl)) rfl
    · exact owe_un (x := .tmp 7) rfl (wants_all rfl) rfl (opnd_op 0 7 (by kernel_rfl) rfl) rfl (fun ρ w h1 => run_lens ρ _ _ w _ h1)
    · exact owe_bin rfl (wants_all rfl) rfl (opnd_op 1 8 (by kernel_rfl) rfl) (opnd_const _) rfl (fun ρ w h1 h2 => by exact run_gtr_int_f ρ _ _ _ w _ _ (by omega) h1 h2)
  intro B2 a2 W2 S2
  replace S2 : Sta w 36 [(2, (.box 24 (Is (.agg #[.bool false, .slice none 0 0]))))] [(9, (Is (.bool false))), (3, (Is (.int .i64 0))), (4, (Is (.int .i64 0))), (0, (Is (str l)))] B2 a2 W2 := S2
  refine wp_cond_false (S2.bool 0 9 rfl) ?_
  refine wp_skip ?_
  refine thenN ?_
  refine wp_seq ?_
  refine wp_stmt_seq [.val (Is (str l)),
      .val (Is (.int .i64 ((l).length : Nat))),
      .val (Is (.int .i64 0))] [.inr 0] [.inl 1, .inl 2, .inr 0, .inr 1, .inr 2, .inr 3] follows S2 rfl (by kernel_rfl) ?_ ?_
  · refine ⟨⟨⟨trivial, ?_⟩, ?_⟩, ?_⟩
    · exact owe_move rfl (wants_all rfl) (Or.inl rfl) (opnd_slot 3 0 rfl (by kernel_rfl)) rfl
    · exact owe_un (x := .tmp 11) rfl (wants_all rfl) rfl (opnd_op 0 11 (by kernel_rfl) rfl) rfl (fun ρ w h1 => run_lens ρ _ _ w _ h1)
    · exact owe_move rfl (wants_all rfl) (Or.inl rfl) (opnd_const _) rfl
  intro B3 a3 W3 S3
  replace S3 : Sta w 36 [(2, (.box 24 (Is (.agg #[.bool false, .slice none 0 0]))))] [(12, (Is (.int .i64 ((l).length : Nat)))), (13, (Is (.int .i64 0))), (9, (Is (.bool false))), (3, (Is (.int .i64 0))), (4, (Is (.int .i64 0))), (0, (Is (str l)))] B3 a3 W3 := S3
  refine wp_block ?_
  refine wp_loop_ghost (fun (k0 : Nat) a W => (k0 ≤ i) ∧ ∃ Bq, Sta w 36 [(2, (.box 24 (Is (.agg #[.bool false, .slice none 0 0]))))] [(12, (Is (.int .i64 ((l).length : Nat)))), (13, (Is (.int .i64 k0))), (3, (Is (.int .i64 0))), (4, (Is (.int .i64 0))), (0, (Is (str l)))] Bq a W) (fun (k0 : Nat) => i - k0) ?_ 0 ⟨Nat.zero_le _, B3, S3.sub [0] [0, 1, 3, 4, 5]⟩
  rintro k0 a4 W4 ⟨hcond, B4, S4⟩
  by_cases hlt : k0 < i
  · have hgk := hall k0 (by omega)
    refine wp_stmt_seq [.val (Is (.bool true))] [.inr 0] [.inl 0, .inr 0, .inr 1, .inr 2, .inr 3, .inr 4] follows S4 rfl (by kernel_rfl) ?_ ?_
    · refine ⟨trivial, ?_⟩
      · exact owe_bin rfl (wants_all rfl) rfl (opnd_slot 1 13 rfl (by kernel_rfl)) (opnd_slot 0 12 rfl (by kernel_rfl)) rfl (fun ρ w h1 h2 => by exact run_lss_int_t ρ _ _ _ w _ _ (by omega) h1 h2)
    intro B5 a5 W5 S5
    replace S5 : Sta w 36 [(2, (.box 24 (Is (.agg #[.bool false, .slice none 0 0]))))] [(14, (Is (.bool true))), (12, (Is (.int .i64 ((l).length : Nat)))), (13, (Is (.int .i64 k0))), (3, (Is (.int .i64 0))), (4, (Is (.int .i64 0))), (0, (Is (str l)))] B5 a5 W5 := S5
    refine wp_seq ?_
    refine wp_cond_true (S5.bool 0 14 rfl) ?_
    refine wp_skip ?_
    refine thenN ?_
    refine wp_seq ?_
    refine wp_block ?_
    refine wp_stmt_seq [.val (Is (.int .i64 k0)),
      .val (Is (.int .i64 k0))] [.inr 0] [.inl 1, .inr 0, .inr 1, .inr 2, .inr 3, .inr 4, .inr 5] follows S5 rfl (by kernel_rfl) ?_ ?_
    · refine ⟨⟨trivial, ?_⟩, ?_⟩
      · exact owe_move rfl (wants_all rfl) (Or.inl rfl) (opnd_slot 2 13 rfl (by kernel_rfl)) rfl
      · exact owe_move rfl (wants_all rfl) (Or.inr rfl) (opnd_op 0 15 (by kernel_rfl) rfl) rfl
    intro B6 a6 W6 S6
    replace S6 : Sta w 36 [(2, (.box 24 (Is (.agg #[.bool false, .slice none 0 0]))))] [(5, (Is (.int .i64 k0))), (14, (Is (.bool true))), (12, (Is (.int .i64 ((l).length : Nat)))), (13, (Is (.int .i64 k0))), (3, (Is (.int .i64 0))), (4, (Is (.int .i64 0))), (0, (Is (str l)))] B6 a6 W6 := S6
    refine wp_stmt_seq [.val (Is (str l)),
      .val (Is (.int .i64 k0)),
      .val (Is (.bool true)),
      .val (Is (.bool false))] [.inr 0] [.inl 3, .inr 0, .inr 1, .inr 2, .inr 3, .inr 4, .inr 5, .inr 6] follows S6 rfl (by kernel_rfl) ?_ ?_
    · refine ⟨⟨⟨⟨trivial, ?_⟩, ?_⟩, ?_⟩, ?_⟩
      · exact owe_move rfl (wants_all rfl) (Or.inl rfl) (opnd_slot 6 0 rfl (by kernel_rfl)) rfl
      · exact owe_move rfl (wants_all rfl) (Or.inl rfl) (opnd_slot 0 5 rfl (by kernel_rfl)) rfl
      · exact owe_callh2 rfl (wants_all rfl) rfl (opnd_op 0 16 (by kernel_rfl) rfl) (opnd_op 1 17 (by kernel_rfl) rfl) (fresh_is _) rfl (fun args w => by go_simp) (fun w u v h1 h2 => by obtain rfl : u = _ := h1.now; obtain rfl : v = _ := h2.now; exact goesOn_w w l _ (by omega) _ hgk)
      · exact owe_un (x := .tmp 18) rfl (wants_all rfl) rfl (opnd_op 2 18 (by kernel_rfl) rfl) rfl (fun ρ w h1 => run_not ρ _ _ w _ h1)
    intro B7 a7 W7 S7
    replace S7 : Sta w 36 [(2, (.box 24 (Is (.agg #[.bool false, .slice none 0 0]))))] [(19, (Is (.bool false))), (5, (Is (.int .i64 k0))), (14, (Is (.bool true))), (12, (Is (.int .i64 ((l).length : Nat)))), (13, (Is (.int .i64 k0))), (3, (Is (.int .i64 0))), (4, (Is (.int .i64 0))), (0, (Is (str l)))] B7 a7 W7 := S7
    refine wp_cond_false (S7.bool 0 19 rfl) ?_
    refine wp_skip ?_
    refine inBlkN ?_
    refine thenN ?_
    refine wp_stmt [.val (Is (.int .i64 (k0 + 1 : Nat))),
      .val (Is (.int .i64 (k0 + 1 : Nat)))] [.inr 0] [.inl 1, .inr 0, .inr 1, .inr 2, .inr 3, .inr 5, .inr 6, .inr 7] follows S7 rfl (by kernel_rfl) ?_ ?_
    · refine ⟨⟨trivial, ?_⟩, ?_⟩
      · exact owe_bin rfl (wants_all rfl) rfl (opnd_slot 4 13 rfl (by kernel_rfl)) (opnd_const _) rfl (fun ρ w h1 h2 => by exact run_add_int ρ _ _ _ w _ _ _ ⟨by omega, by omega, by omega⟩ h1 h2)
      · exact owe_move rfl (wants_all rfl) (Or.inl rfl) (opnd_op 0 22 (by kernel_rfl) rfl) rfl
    intro B8 a8 W8 S8
    replace S8 : Sta w 36 [(2, (.box 24 (Is (.agg #[.bool false, .slice none 0 0]))))] [(13, (Is (.int .i64 (k0 + 1 : Nat)))), (19, (Is (.bool false))), (5, (Is (.int .i64 k0))), (14, (Is (.bool true))), (12, (Is (.int .i64 ((l).length : Nat)))), (3, (Is (.int .i64 0))), (4, (Is (.int .i64 0))), (0, (Is (str l)))] B8 a8 W8 := S8
    refine thenN ?_
    exact ⟨k0 + 1, ⟨by omega, B8, S8.sub [0] [4, 0, 5, 6, 7]⟩, by omega⟩
  · have ek : k0 = i := by omega
    rw [ek] at S4
    refine wp_stmt_seq [.val (Is (.bool true))] [.inr 0] [.inl 0, .inr 0, .inr 1, .inr 2, .inr 3, .inr 4] follows S4 rfl (by kernel_rfl) ?_ ?_
    · refine ⟨trivial, ?_⟩
      · exact owe_bin rfl (wants_all rfl) rfl (opnd_slot 1 13 rfl (by kernel_rfl)) (opnd_slot 0 12 rfl (by kernel_rfl)) rfl (fun ρ w h1 h2 => by exact run_lss_int_t ρ _ _ _ w _ _ (by omega) h1 h2)
    intro B5 a5 W5 S5
    replace S5 : Sta w 36 [(2, (.box 24 (Is (.agg #[.bool false, .slice none 0 0]))))] [(14, (Is (.bool true))), (12, (Is (.int .i64 ((l).length : Nat)))), (13, (Is (.int .i64 (i : Nat)))), (3, (Is (.int .i64 0))), (4, (Is (.int .i64 0))), (0, (Is (str l)))] B5 a5 W5 := S5
    refine wp_seq ?_
    refine wp_cond_true (S5.bool 0 14 rfl) ?_
    refine wp_skip ?_
    refine thenN ?_
    refine wp_seq ?_
    refine wp_block ?_
    refine wp_stmt_seq [.val (Is (.int .i64 (i : Nat))),
      .val (Is (.int .i64 (i : Nat)))] [.inr 0] [.inl 1, .inr 0, .inr 1, .inr 2, .inr 3, .inr 4, .inr 5] follows S5 rfl (by kernel_rfl) ?_ ?_
    · refine ⟨⟨trivial, ?_⟩, ?_⟩
      · exact owe_move rfl (wants_all rfl) (Or.inl rfl) (opnd_slot 2 13 rfl (by kernel_rfl)) rfl
      · exact owe_move rfl (wants_all rfl) (Or.inr rfl) (opnd_op 0 15 (by kernel_rfl) rfl) rfl
    intro B6 a6 W6 S6
    replace S6 : Sta w 36 [(2, (.box 24 (Is (.agg #[.bool false, .slice none 0 0]))))] [(5, (Is (.int .i64 (i : Nat)))), (14, (Is (.bool true))), (12, (Is (.int .i64 ((l).length : Nat)))), (13, (Is (.int .i64 (i : Nat)))), (3, (Is (.int .i64 0))), (4, (Is (.int .i64 0))), (0, (Is (str l)))] B6 a6 W6 := S6
    refine wp_stmt_seq [.val (Is (str l)),
      .val (Is (.int .i64 (i : Nat))),
      .val (Is (.bool false)),
      .val (Is (.bool true))] [.inr 0] [.inl 3, .inr 0, .inr 1, .inr 2, .inr 3, .inr 4, .inr 5, .inr 6] follows S6 rfl (by kernel_rfl) ?_ ?_
    · refine ⟨⟨⟨⟨trivial, ?_⟩, ?_⟩, ?_⟩, ?_⟩
      · exact owe_move rfl (wants_all rfl) (Or.inl rfl) (opnd_slot 6 0 rfl (by kernel_rfl)) rfl
      · exact owe_move rfl (wants_all rfl) (Or.inl rfl) (opnd_slot 0 5 rfl (by kernel_rfl)) rfl
      · exact owe_callh2 rfl (wants_all rfl) rfl (opnd_op 0 16 (by kernel_rfl) rfl) (opnd_op 1 17 (by kernel_rfl) rfl) (fresh_is _) rfl (fun args w => by go_simp) (fun w u v h1 h2 => by obtain rfl : u = _ := h1.now; obtain rfl : v = _ := h2.now; exact goesOn_w w l _ (by omega) _ hg)
      · exact owe_un (x := .tmp 18) rfl (wants_all rfl) rfl (opnd_op 2 18 (by kernel_rfl) rfl) rfl (fun ρ w h1 => run_not ρ _ _ w _ h1)
    intro B7 a7 W7 S7
    replace S7 : Sta w 36 [(2, (.box 24 (Is (.agg #[.bool false, .slice none 0 0]))))] [(19, (Is (.bool true))), (5, (Is (.int .i64 (i : Nat)))), (14, (Is (.bool true))), (12, (Is (.int .i64 ((l).length : Nat)))), (13, (Is (.int .i64 (i : Nat)))), (3, (Is (.int .i64 0))), (4, (Is (.int .i64 0))), (0, (Is (str l)))] B7 a7 W7 := S7
    refine wp_cond_true (S7.bool 0 19 rfl) ?_
    refine wp_stmt_seq [.val (Is (.agg #[.bool false, .slice none 0 0])),
      .val (Is (.int .i64 (i : Nat))),
      .put (.inl 2) (.box 24 (Is (.agg #[.bool false, .slice none 0 0]))),
      .val (Is (.int .i64 (i : Nat))),
      .val (Is (.int .i64 4))] [.inr 0] [.inl 3, .inl 4, .inr 0, .inr 1, .inr 2, .inr 3, .inr 4, .inr 7] follows S7 rfl (by kernel_rfl) ?_ ?_
    · refine ⟨⟨⟨⟨⟨trivial, ?_⟩, ?_⟩, ?_⟩, ?_⟩, ?_⟩
      · exact owe_build_int rfl (wants_all rfl) rfl rfl
      · exact owe_move rfl (wants_all rfl) (Or.inl rfl) (opnd_slot 1 5 rfl (by kernel_rfl)) rfl
      · exact owe_set rfl (wants_all rfl) rfl (k := 0) rfl (by kernel_rfl) (opnd_op 0 20 (by kernel_rfl) rfl) (stores_of strct_int shp_z0 shp_z0) rfl
      · exact owe_move rfl (wants_all rfl) (Or.inr rfl) (opnd_op 1 21 (by kernel_rfl) rfl) rfl
      · exact owe_move rfl (wants_all rfl) (Or.inr rfl) (opnd_const _) rfl
    intro B8 a8 W8 S8
    replace S8 : Sta w 36 [(2, (.box 24 (Is (.agg #[.bool false, .slice none 0 0]))))] [(3, (Is (.int .i64 (i : Nat)))), (4, (Is (.int .i64 4))), (19, (Is (.bool true))), (5, (Is (.int .i64 (i : Nat)))), (14, (Is (.bool true))), (12, (Is (.int .i64 ((l).length : Nat)))), (13, (Is (.int .i64 (i : Nat)))), (0, (Is (str l)))] B8 a8 W8 := S8
    refine wp_ret ?_
    refine inBlkR ?_
    refine thenR ?_
    refine thenR ?_
    refine inBlkR ?_
    refine thenR ?_
    exact end_three S8 rfl (res_cell S8 0 2 rfl strct_int shp_z0) (res_tmp S8 0 3 rfl) (res_tmp S8 1 4 rfl)

set_option maxHeartbeats 1000000 in
theorem zread_none (w : World) (l : List UInt8) (hl : l.length ≤ 65536) (hall : ∀ j, j < l.length → goes l j = true) (ht : tl l = []) :
    Calls Tryd.prog 8 #[str l] w (Gives (THREE (IS (.agg #[.bool false, .slice none 0 0])) (IS (.int .i64 (l.length : Nat))) (IS (.int .i64 4))) w) := by
  refine calls_sta (sl := [(0, (Is (str l)))]) Tryd.func8 rfl Tryd.ntmps8 (by simp) (args_cons rfl (is_has _) args_nil) ?_
  intro a0 S0
  refine wp_stmt_seq [.new (.box 24 (Is (.agg #[.bool false, .slice none 0 0]))),
      .val (Is (.int .i64 0)),
      .val (Is (.int .i64 0))] [.inl 0] [.inl 1, .inl 2, .inr 0] follows S0 rfl (by kernel_rfl) ?_ ?_
  · refine ⟨⟨⟨trivial, ?_⟩, ?_⟩, ?_⟩
    · exact owe_new rfl (wants_all rfl) rfl rfl (fun ρ w => alloc_int ρ _ w)
    · exact owe_move rfl (wants_all rfl) (Or.inr rfl) (opnd_const _) rfl
    · exact owe_move rfl (wants_all rfl) (Or.inr rfl) (opnd_const _) rfl
  intro B1 a1 W1 S1
  replace S1 : Sta w 36 [(2, (.box 24 (Is (.agg #[.bool false, .slice none 0 0]))))] [(3, (Is (.int .i64 0))), (4, (Is (.int .i64 0))), (0, (Is (str l)))] B1 a1 W1 := S1
  refine wp_seq ?_
  refine wp_stmt_seq [.val (Is (str l)),
      .val (Is (.int .i64 ((l).length : Nat))),
      .val (Is (.bool false))] [.inr 0] [.inl 2, .inr 0, .inr 1, .inr 2] follows S1 rfl (by kernel_rfl) ?_ ?_
  · refine ⟨⟨⟨trivial, ?_⟩, ?_⟩, ?_⟩
    · exact owe_move rfl (wants_all rfl) (Or.inl rfl) (opnd_slot 2 0 rfl (by kernel_rfl)) rfl
    · exact owe_un (x := .tmp 7) rfl (wants_all rfl) rfl (opnd_op 0 7 (by kernel_rfl) rfl) rfl (fun ρ w h1 => run_lens ρ _ _ w _ h1)
    · exact owe_bin rfl (wants_all rfl) rfl (opnd_op 1 8 (by kernel_rfl) rfl) (opnd_const _) rfl (fun ρ w h1 h2 => by exact run_gtr_int_f ρ _ _ _ w _ _ (by omega) h1 h2)
  intro B2 a2 W2 S2
  replace S2 : Sta w 36 [(2, (.box 24 (Is (.agg #[.bool false, .slice none 0 0]))))] [(9, (Is (.bool false))), (3, (Is (.int .i64 0))), (4, (Is (.int .i64 0))), (0, (Is (str l)))] B2 a2 W2 := S2
  refine wp_cond_false (S2.bool 0 9 rfl) ?_
  refine wp_skip ?_
  refine thenN ?_
  refine wp_seq ?_
  refine wp_stmt_seq [.val (Is (str l)),
      .val (Is (.int .i64 ((l).length : Nat))),
      .val (Is (.int .i64 0))] [.inr 0] [.inl 1, .inl 2, .inr 0, .inr 1, .inr 2, .inr 3] follows S2 rfl (by kernel_rfl) ?_ ?_
  · refine ⟨⟨⟨trivial, ?_⟩, ?_⟩, ?_⟩
    · exact owe_move rfl (wants_all rfl) (Or.inl rfl) (opnd_slot 3 0 rfl (by kernel_rfl)) rfl
    · exact owe_un (x := .tmp 11) rfl (wants_all rfl) rfl (opnd_op 0 11 (by kernel_rfl) rfl) rfl (fun ρ w h1 => run_lens ρ _ _ w _ h1)
    · exact owe_move rfl (wants_all rfl) (Or.inl rfl) (opnd_const _) rfl
  intro B3 a3 W3 S3
  replace S3 : Sta w 36 [(2, (.box 24 (Is (.agg #[.bool false, .slice none 0 0]))))] [(12, (Is (.int .i64 ((l).length : Nat)))), (13, (Is (.int .i64 0))), (9, (Is (.bool false))), (3, (Is (.int .i64 0))), (4, (Is (.int .i64 0))), (0, (Is (str l)))] B3 a3 W3 := S3
  refine wp_block ?_
  refine wp_loop_ghost (fun (k0 : Nat) a W => (k0 ≤ l.length) ∧ ∃ Bq, Sta w 36 [(2, (.box 24 (Is (.agg #[.bool false, .slice none 0 0]))))] [(12, (Is (.int .i64 ((l).length : Nat)))), (13, (Is (.int .i64 k0))), (3, (Is (.int .i64 0))), (4, (Is (.int .i64 0))), (0, (Is (str l)))] Bq a W) (fun (k0 : Nat) => l.length - k0) ?_ 0 ⟨Nat.zero_le _, B3, S3.sub [0] [0, 1, 3, 4, 5]⟩
  rintro k0 a4 W4 ⟨hcond, B4, S4⟩
  by_cases hlt : k0 < l.length
  · have hgk := hall k0 (by omega)
    refine wp_stmt_seq [.val (Is (.bool true))] [.inr 0] [.inl 0, .inr 0, .inr 1, .inr 2, .inr 3, .inr 4] follows S4 rfl (by kernel_rfl) ?_ ?_
    · refine ⟨trivial, ?_⟩
      · exact owe_bin rfl (wants_all rfl) rfl (opnd_slot 1 13 rfl (by kernel_rfl)) (opnd_slot 0 12 rfl (by kernel_rfl)) rfl (fun ρ w h1 h2 => by exact run_lss_int_t ρ _ _ _ w _ _ (by omega) h1 h2)
    intro B5 a5 W5 S5
    replace S5 : Sta w 36 [(2, (.box 24 (Is (.agg #[.bool false, .slice none 0 0]))))] [(14, (Is (.bool true))), (12, (Is (.int .i64 ((l).length : Nat)))), (13, (Is (.int .i64 k0))), (3, (Is (.int .i64 0))), (4, (Is (.int .i64 0))), (0, (Is (str l)))] B5 a5 W5 := S5
    refine wp_seq ?_
    refine wp_cond_true (S5.bool 0 14 rfl) ?_
    refine wp_skip ?_
    refine thenN ?_
    refine wp_seq ?_
    refine wp_block ?_
    refine wp_stmt_seq [.val (Is (.int .i64 k0)),
      .val (Is (.int .i64 k0))] [.inr 0] [.inl 1, .inr 0, .inr 1, .inr 2, .inr 3, .inr 4, .inr 5] follows S5 rfl (by kernel_rfl) ?_ ?_
    · refine ⟨⟨trivial, ?_⟩, ?_⟩
      · exact owe_move rfl (wants_all rfl) (Or.inl rfl) (opnd_slot 2 13 rfl (by kernel_rfl)) rfl
      · exact owe_move rfl (wants_all rfl) (Or.inr rfl) (opnd_op 0 15 (by kernel_rfl) rfl) rfl
    intro B6 a6 W6 S6
    replace S6 : Sta w 36 [(2, (.box 24 (Is (.agg #[.bool false, .slice none 0 0]))))] [(5, (Is (.int .i64 k0))), (14, (Is (.bool true))), (12, (Is (.int .i64 ((l).length : Nat)))), (13, (Is (.int .i64 k0))), (3, (Is (.int .i64 0))), (4, (Is (.int .i64 0))), (0, (Is (str l)))] B6 a6 W6 := S6
    refine wp_stmt_seq [.val (Is (str l)),
      .val (Is (.int .i64 k0)),
      .val (Is (.bool true)),
      .val (Is (.bool false))] [.inr 0] [.inl 3, .inr 0, .inr 1, .inr 2, .inr 3, .inr 4, .inr 5, .inr 6] follows S6 rfl (by kernel_rfl) ?_ ?_
    · refine ⟨⟨⟨⟨trivial, ?_⟩, ?_⟩, ?_⟩, ?_⟩
      · exact owe_move rfl (wants_all rfl) (Or.inl rfl) (opnd_slot 6 0 rfl (by kernel_rfl)) rfl
      · exact owe_move rfl (wants_all rfl) (Or.inl rfl) (opnd_slot 0 5 rfl (by kernel_rfl)) rfl
      · exact owe_callh2 rfl (wants_all rfl) rfl (opnd_op 0 16 (by kernel_rfl) rfl) (opnd_op 1 17 (by kernel_rfl) rfl) (fresh_is _) rfl (fun args w => by go_simp) (fun w u v h1 h2 => by obtain rfl : u = _ := h1.now; obtain rfl : v = _ := h2.now; exact goesOn_w w l _ (by omega) _ hgk)
      · exact owe_un (x := .tmp 18) rfl (wants_all rfl) rfl (opnd_op 2 18 (by kernel_rfl) rfl) rfl (fun ρ w h1 => run_not ρ _ _ w _ h1)
    intro B7 a7 W7 S7
    replace S7 : Sta w 36 [(2, (.box 24 (Is (.agg #[.bool false, .slice none 0 0]))))] [(19, (Is (.bool false))), (5, (Is (.int .i64 k0))), (14, (Is (.bool true))), (12, (Is (.int .i64 ((l).length : Nat)))), (13, (Is (.int .i64 k0))), (3, (Is (.int .i64 0))), (4, (Is (.int .i64 0))), (0, (Is (str l)))] B7 a7 W7 := S7
    refine wp_cond_false (S7.bool 0 19 rfl) ?_
    refine wp_skip ?_
    refine inBlkN ?_
    refine thenN ?_
    refine wp_stmt [.val (Is (.int .i64 (k0 + 1 : Nat))),
      .val (Is (.int .i64 (k0 + 1 : Nat)))] [.inr 0] [.inl 1, .inr 0, .inr 1, .inr 2, .inr 3, .inr 5, .inr 6, .inr 7] follows S7 rfl (by kernel_rfl) ?_ ?_
    · refine ⟨⟨trivial, ?_⟩, ?_⟩
      · exact owe_bin rfl (wants_all rfl) rfl (opnd_slot 4 13 rfl (by kernel_rfl)) (opnd_const _) rfl (fun ρ w h1 h2 => by exact run_add_int ρ _ _ _ w _ _ _ ⟨by omega, by omega, by omega⟩ h1 h2)
      · exact owe_move rfl (wants_all rfl) (Or.inl rfl) (opnd_op 0 22 (by kernel_rfl) rfl) rfl
    intro B8 a8 W8 S8
    replace S8 : Sta w 36 [(2, (.box 24 (Is (.agg #[.bool false, .slice none 0 0]))))] [(13, (Is (.int .i64 (k0 + 1 : Nat)))), (19, (Is (.bool false))), (5, (Is (.int .i64 k0))), (14, (Is (.bool true))), (12, (Is (.int .i64 ((l).length : Nat)))), (3, (Is (.int .i64 0))), (4, (Is (.int .i64 0))), (0, (Is (str l)))] B8 a8 W8 := S8
    refine thenN ?_
    exact ⟨k0 + 1, ⟨by omega, B8, S8.sub [0] [4, 0, 5, 6, 7]⟩, by omega⟩
  · skip
    refine wp_stmt_seq [.val (Is (.bool false))] [.inr 0] [.inl 0, .inr 0, .inr 1, .inr 2, .inr 3, .inr 4] follows S4 rfl (by kernel_rfl) ?_ ?_
    · refine ⟨trivial, ?_⟩
      · exact owe_bin rfl (wants_all rfl) rfl (opnd_slot 1 13 rfl (by kernel_rfl)) (opnd_slot 0 12 rfl (by kernel_rfl)) rfl (fun ρ w h1 h2 => by exact run_lss_int_f ρ _ _ _ w _ _ (by omega) h1 h2)
    intro B5 a5 W5 S5
    replace S5 : Sta w 36 [(2, (.box 24 (Is (.agg #[.bool false, .slice none 0 0]))))] [(14, (Is (.bool false))), (12, (Is (.int .i64 ((l).length : Nat)))), (13, (Is (.int .i64 k0))), (3, (Is (.int .i64 0))), (4, (Is (.int .i64 0))), (0, (Is (str l)))] B5 a5 W5 := S5
    refine wp_seq ?_
    refine wp_cond_false (S5.bool 0 14 rfl) ?_
    refine wp_exit ?_
    refine thenX ?_
    refine thenX ?_
    refine inBlkE ?_
    refine thenN ?_
    refine wp_stmt_seq [.val (Is (str l)),
      .val (Is (str (tl l))),
      .val (Is (str (tl l)))] [.inr 0] [.inl 2, .inr 0, .inr 1, .inr 2, .inr 3, .inr 4, .inr 5] follows S5 rfl (by kernel_rfl) ?_ ?_
    · refine ⟨⟨⟨trivial, ?_⟩, ?_⟩, ?_⟩
      · exact owe_move rfl (wants_all rfl) (Or.inl rfl) (opnd_slot 5 0 rfl (by kernel_rfl)) rfl
      · exact owe_callh2 rfl (wants_all rfl) rfl (opnd_op 0 23 (by kernel_rfl) rfl) ((opnd_const _).imp (fun _ _ h => h)) (fresh_is _) rfl (fun args w => by go_simp) (fun w u v h1 h2 => by obtain rfl : u = _ := h1.now; obtain rfl : v = _ := h2.now; exact trimp_w w l)
      · exact owe_move rfl (wants_all rfl) (Or.inr rfl) (opnd_op 1 24 (by kernel_rfl) rfl) rfl
    intro B6 a6 W6 S6
    replace S6 : Sta w 36 [(2, (.box 24 (Is (.agg #[.bool false, .slice none 0 0]))))] [(6, (Is (str (tl l)))), (14, (Is (.bool false))), (12, (Is (.int .i64 ((l).length : Nat)))), (13, (Is (.int .i64 k0))), (3, (Is (.int .i64 0))), (4, (Is (.int .i64 0))), (0, (Is (str l)))] B6 a6 W6 := S6
    refine wp_seq ?_
    refine wp_stmt_seq [.val (Is (str (tl l))),
      .val (Is (.bool true))] [.inr 0] [.inl 1, .inr 0, .inr 1, .inr 2, .inr 3, .inr 4, .inr 5, .inr 6] follows S6 rfl (by kernel_rfl) ?_ ?_
    · refine ⟨⟨trivial, ?_⟩, ?_⟩
      · exact owe_move rfl (wants_all rfl) (Or.inl rfl) (opnd_slot 0 6 rfl (by kernel_rfl)) rfl
      · exact owe_bin rfl (wants_all rfl) rfl (opnd_op 0 25 (by kernel_rfl) rfl) ((opnd_const _).imp (fun _ _ h => h)) rfl (fun ρ w h1 h2 => by exact run_eql_string_t ρ _ _ _ w _ _ ht h1 h2)
    intro B7 a7 W7 S7
    replace S7 : Sta w 36 [(2, (.box 24 (Is (.agg #[.bool false, .slice none 0 0]))))] [(26, (Is (.bool true))), (6, (Is (str (tl l)))), (14, (Is (.bool false))), (12, (Is (.int .i64 ((l).length : Nat)))), (13, (Is (.int .i64 k0))), (3, (Is (.int .i64 0))), (4, (Is (.int .i64 0))), (0, (Is (str l)))] B7 a7 W7 := S7
    refine wp_cond_true (S7.bool 0 26 rfl) ?_
    refine wp_stmt_seq [.val (Is (.agg #[.bool false, .slice none 0 0])),
      .val (Is (str l)),
      .val (Is (.int .i64 ((l).length : Nat))),
      .put (.inl 2) (.box 24 (Is (.agg #[.bool false, .slice none 0 0]))),
      .val (Is (.int .i64 ((l).length : Nat))),
      .val (Is (.int .i64 4))] [.inr 0] [.inl 4, .inl 5, .inr 0, .inr 1, .inr 2, .inr 3, .inr 4, .inr 7] follows S7 rfl (by kernel_rfl) ?_ ?_
    · refine ⟨⟨⟨⟨⟨⟨trivial, ?_⟩, ?_⟩, ?_⟩, ?_⟩, ?_⟩, ?_⟩
      · exact owe_build_int rfl (wants_all rfl) rfl rfl
      · exact owe_move rfl (wants_all rfl) (Or.inl rfl) (opnd_slot 7 0 rfl (by kernel_rfl)) rfl
      · exact owe_un (x := .tmp 28) rfl (wants_all rfl) rfl (opnd_op 1 28 (by kernel_rfl) rfl) rfl (fun ρ w h1 => run_lens ρ _ _ w _ h1)
      · exact owe_set rfl (wants_all rfl) rfl (k := 0) rfl (by kernel_rfl) (opnd_op 0 27 (by kernel_rfl) rfl) (stores_of strct_int shp_z0 shp_z0) rfl
      · exact owe_move rfl (wants_all rfl) (Or.inr rfl) (opnd_op 2 29 (by kernel_rfl) rfl) rfl
      · exact owe_move rfl (wants_all rfl) (Or.inr rfl) (opnd_const _) rfl
    intro B8 a8 W8 S8
    replace S8 : Sta w 36 [(2, (.box 24 (Is (.agg #[.bool false, .slice none 0 0]))))] [(3, (Is (.int .i64 ((l).length : Nat)))), (4, (Is (.int .i64 4))), (26, (Is (.bool true))), (6, (Is (str (tl l)))), (14, (Is (.bool false))), (12, (Is (.int .i64 ((l).length : Nat)))), (13, (Is (.int .i64 k0))), (0, (Is (str l)))] B8 a8 W8 := S8
    refine wp_ret ?_
    refine thenR ?_
    exact end_three S8 rfl (res_cell S8 0 2 rfl strct_int shp_z0) (res_tmp S8 0 3 rfl) (res_tmp S8 1 4 rfl)

set_option maxHeartbeats 1000000 in
theorem zread_ok (w : World) (l : List UInt8) (hl : l.length ≤ 65536) (hall : ∀ j, j < l.length → goes l j = true) (ht : tl l ≠ []) :
    Calls Tryd.prog 8 #[str l] w (Gives (THREE (ZN (sg (isN l) (decV (tl l)))) (IS (.int .i64 0)) (IS (.int .i64 0))) w) := by
  have hp : 0 < l.length := by
      apply Classical.byContradiction
      intro hc
      have : l = [] := List.length_eq_zero_iff.1 (by omega)
      subst this
      exact ht rfl
  have htl : (tl l).length ≤ 65536 := by
      unfold tl
      split
      · simp; omega
      · exact hl
  have hdt := all_dig hall
  refine calls_sta (sl := [(0, (Is (str l)))]) Tryd.func8 rfl Tryd.ntmps8 (by simp) (args_cons rfl (is_has _) args_nil) ?_
  intro a0 S0
  refine wp_stmt_seq [.new (.box 24 (Is (.agg #[.bool false, .slice none 0 0]))),
      .val (Is (.int .i64 0)),
      .val (Is (.int .i64 0))] [.inl 0] [.inl 1, .inl 2, .inr 0] follows S0 rfl (by kernel_rfl) ?_ ?_
  · refine ⟨⟨⟨trivial, ?_⟩, ?_⟩, ?_⟩
    · exact owe_new rfl (wants_all rfl) rfl rfl (fun ρ w => alloc_int ρ _ w)
    · exact owe_move rfl (wants_all rfl) (Or.inr rfl) (opnd_const _) rfl
    · exact owe_move rfl (wants_all rfl) (Or.inr rfl) (opnd_const _) rfl
  intro B1 a1 W1 S1
  replace S1 : Sta w 36 [(2, (.box 24 (Is (.agg #[.bool false, .slice none 0 0]))))] [(3, (Is (.int .i64 0))), (4, (Is (.int .i64 0))), (0, (Is (str l)))] B1 a1 W1 := S1
  refine wp_seq ?_
  refine wp_stmt_seq [.val (Is (str l)),
      .val (Is (.int .i64 ((l).length : Nat))),
      .val (Is (.bool false))] [.inr 0] [.inl 2, .inr 0, .inr 1, .inr 2] follows S1 rfl (by kernel_rfl) ?_ ?_
  · refine ⟨⟨⟨trivial, ?_⟩, ?_⟩, ?_⟩
    · exact owe_move rfl (wants_all rfl) (Or.inl rfl) (opnd_slot 2 0 rfl (by kernel_rfl)) rfl
    · exact owe_un (x := .tmp 7) rfl (wants_all rfl) rfl (opnd_op 0 7 (by kernel_rfl) rfl) rfl (fun ρ w h1 => run_lens ρ _ _ w _ h1)
    · exact owe_bin rfl (wants_all rfl) rfl (opnd_op 1 8 (by kernel_rfl) rfl) (opnd_const _) rfl (fun ρ w h1 h2 => by exact run_gtr_int_f ρ _ _ _ w _ _ (by omega) h1 h2)
  intro B2 a2 W2 S2
  replace S2 : Sta w 36 [(2, (.box 24 (Is (.agg #[.bool false, .slice none 0 0]))))] [(9, (Is (.bool false))), (3, (Is (.int .i64 0))), (4, (Is (.int .i64 0))), (0, (Is (str l)))] B2 a2 W2 := S2
  refine wp_cond_false (S2.bool 0 9 rfl) ?_
  refine wp_skip ?_
  refine thenN ?_
  refine wp_seq ?_
  refine wp_stmt_seq [.val (Is (str l)),
      .val (Is (.int .i64 ((l).length : Nat))),
      .val (Is (.int .i64 0))] [.inr 0] [.inl 1, .inl 2, .inr 0, .inr 1, .inr 2, .inr 3] follows S2 rfl (by kernel_rfl) ?_ ?_
  · refine ⟨⟨⟨trivial, ?_⟩, ?_⟩, ?_⟩
    · exact owe_move rfl (wants_all rfl) (Or.inl rfl) (opnd_slot 3 0 rfl (by kernel_rfl)) rfl
    · exact owe_un (x := .tmp 11) rfl (wants_all rfl) rfl (opnd_op 0 11 (by kernel_rfl) rfl) rfl (fun ρ w h1 => run_lens ρ _ _ w _ h1)
    · exact owe_move rfl (wants_all rfl) (Or.inl rfl) (opnd_const _) rfl
  intro B3 a3 W3 S3
  replace S3 : Sta w 36 [(2, (.box 24 (Is (.agg #[.bool false, .slice none 0 0]))))] [(12, (Is (.int .i64 ((l).length : Nat)))), (13, (Is (.int .i64 0))), (9, (Is (.bool false))), (3, (Is (.int .i64 0))), (4, (Is (.int .i64 0))), (0, (Is (str l)))] B3 a3 W3 := S3
  refine wp_block ?_
  refine wp_loop_ghost (fun (k0 : Nat) a W => (k0 ≤ l.length) ∧ ∃ Bq, Sta w 36 [(2, (.box 24 (Is (.agg #[.bool false, .slice none 0 0]))))] [(12, (Is (.int .i64 ((l).length : Nat)))), (13, (Is (.int .i64 k0))), (3, (Is (.int .i64 0))), (4, (Is (.int .i64 0))), (0, (Is (str l)))] Bq a W) (fun (k0 : Nat) => l.length - k0) ?_ 0 ⟨Nat.zero_le _, B3, S3.sub [0] [0, 1, 3, 4, 5]⟩
  rintro k0 a4 W4 ⟨hcond, B4, S4⟩
  by_cases hlt : k0 < l.length
  · have hgk := hall k0 (by omega)
    refine wp_stmt_seq [.val (Is (.bool true))] [.inr 0] [.inl 0, .inr 0, .inr 1, .inr 2, .inr 3, .inr 4] follows S4 rfl (by kernel_rfl) ?_ ?_
    · refine ⟨trivial, ?_⟩
      · exact owe_bin rfl (wants_all rfl) rfl (opnd_slot 1 13 rfl (by kernel_rfl)) (opnd_slot 0 12 rfl (by kernel_rfl)) rfl (fun ρ w h1 h2 => by exact run_lss_int_t ρ _ _ _ w _ _ (by omega) h1 h2)
    intro B5 a5 W5 S5
    replace S5 : Sta w 36 [(2, (.box 24 (Is (.agg #[.bool false, .slice none 0 0]))))] [(14, (Is (.bool true))), (12, (Is (.int .i64 ((l).length : Nat)))), (13, (Is (.int .i64 k0))), (3, (Is (.int .i64 0))), (4, (Is (.int .i64 0))), (0, (Is (str l)))] B5 a5 W5 := S5
    refine wp_seq ?_
    refine wp_cond_true (S5.bool 0 14 rfl) ?_
    refine wp_skip ?_
    refine thenN ?_
    refine wp_seq ?_
    refine wp_block ?_
    refine wp_stmt_seq [.val (Is (.int .i64 k0)),
      .val (Is (.int .i64 k0))] [.inr 0] [.inl 1, .inr 0, .inr 1, .inr 2, .inr 3, .inr 4, .inr 5] follows S5 rfl (by kernel_rfl) ?_ ?_
    · refine ⟨⟨trivial, ?_⟩, ?_⟩
      · exact owe_move rfl (wants_all rfl) (Or.inl rfl) (opnd_slot 2 13 rfl (by kernel_rfl)) rfl
      · exact owe_move rfl (wants_all rfl) (Or.inr rfl) (opnd_op 0 15 (by kernel_rfl) rfl) rfl
    intro B6 a6 W6 S6
    replace S6 : Sta w 36 [(2, (.box 24 (Is (.agg #[.bool false, .slice none 0 0]))))] [(5, (Is (.int .i64 k0))), (14, (Is (.bool true))), (12, (Is (.int .i64 ((l).length : Nat)))), (13, (Is (.int .i64 k0))), (3, (Is (.int .i64 0))), (4, (Is (.int .i64 0))), (0, (Is (str l)))] B6 a6 W6 := S6
    refine wp_stmt_seq [.val (Is (str l)),
      .val (Is (.int .i64 k0)),
      .val (Is (.bool true)),
      .val (Is (.bool false))] [.inr 0] [.inl 3, .inr 0, .inr 1, .inr 2, .inr 3, .inr 4, .inr 5, .inr 6] follows S6 rfl (by kernel_rfl) ?_ ?_
    · refine ⟨⟨⟨⟨trivial, ?_⟩, ?_⟩, ?_⟩, ?_⟩
      · exact owe_move rfl (wants_all rfl) (Or.inl rfl) (opnd_slot 6 0 rfl (by kernel_rfl)) rfl
      · exact owe_move rfl (wants_all rfl) (Or.inl rfl) (opnd_slot 0 5 rfl (by kernel_rfl)) rfl
      · exact owe_callh2 rfl (wants_all rfl) rfl (opnd_op 0 16 (by kernel_rfl) rfl) (opnd_op 1 17 (by kernel_rfl) rfl) (fresh_is _) rfl (fun args w => by go_simp) (fun w u v h1 h2 => by obtain rfl : u = _ := h1.now; obtain rfl : v = _ := h2.now; exact goesOn_w w l _ (by omega) _ hgk)
      · exact owe_un (x := .tmp 18) rfl (wants_all rfl) rfl (opnd_op 2 18 (by kernel_rfl) rfl) rfl (fun ρ w h1 => run_not ρ _ _ w _ h1)
    intro B7 a7 W7 S7
    replace S7 : Sta w 36 [(2, (.box 24 (Is (.agg #[.bool false, .slice none 0 0]))))] [(19, (Is (.bool false))), (5, (Is (.int .i64 k0))), (14, (Is (.bool true))), (12, (Is (.int .i64 ((l).length : Nat)))), (13, (Is (.int .i64 k0))), (3, (Is (.int .i64 0))), (4, (Is (.int .i64 0))), (0, (Is (str l)))] B7 a7 W7 := S7
    refine wp_cond_false (S7.bool 0 19 rfl) ?_
    refine wp_skip ?_
    refine inBlkN ?_
    refine thenN ?_
    refine wp_stmt [.val (Is (.int .i64 (k0 + 1 : Nat))),
      .val (Is (.int .i64 (k0 + 1 : Nat)))] [.inr 0] [.inl 1, .inr 0, .inr 1, .inr 2, .inr 3, .inr 5, .inr 6, .inr 7] follows S7 rfl (by kernel_rfl) ?_ ?_
    · refine ⟨⟨trivial, ?_⟩, ?_⟩
      · exact owe_bin rfl (wants_all rfl) rfl (opnd_slot 4 13 rfl (by kernel_rfl)) (opnd_const _) rfl (fun ρ w h1 h2 => by exact run_add_int ρ _ _ _ w _ _ _ ⟨by omega, by omega, by omega⟩ h1 h2)
      · exact owe_move rfl (wants_all rfl) (Or.inl rfl) (opnd_op 0 22 (by kernel_rfl) rfl) rfl
    intro B8 a8 W8 S8
    replace S8 : Sta w 36 [(2, (.box 24 (Is (.agg #[.bool false, .slice none 0 0]))))] [(13, (Is (.int .i64 (k0 + 1 : Nat)))), (19, (Is (.bool false))), (5, (Is (.int .i64 k0))), (14, (Is (.bool true))), (12, (Is (.int .i64 ((l).length : Nat)))), (3, (Is (.int .i64 0))), (4, (Is (.int .i64 0))), (0, (Is (str l)))] B8 a8 W8 := S8
    refine thenN ?_
    exact ⟨k0 + 1, ⟨by omega, B8, S8.sub [0] [4, 0, 5, 6, 7]⟩, by omega⟩
  · skip
    refine wp_stmt_seq [.val (Is (.bool false))] [.inr 0] [.inl 0, .inr 0, .inr 1, .inr 2, .inr 3, .inr 4] follows S4 rfl (by kernel_rfl) ?_ ?_
    · refine ⟨trivial, ?_⟩
      · exact owe_bin rfl (wants_all rfl) rfl (opnd_slot 1 13 rfl (by kernel_rfl)) (opnd_slot 0 12 rfl (by kernel_rfl)) rfl (fun ρ w h1 h2 => by exact run_lss_int_f ρ _ _ _ w _ _ (by omega) h1 h2)
    intro B5 a5 W5 S5
    replace S5 : Sta w 36 [(2, (.box 24 (Is (.agg #[.bool false, .slice none 0 0]))))] [(14, (Is (.bool false))), (12, (Is (.int .i64 ((l).length : Nat)))), (13, (Is (.int .i64 k0))), (3, (Is (.int .i64 0))), (4, (Is (.int .i64 0))), (0, (Is (str l)))] B5 a5 W5 := S5
    refine wp_seq ?_
    refine wp_cond_false (S5.bool 0 14 rfl) ?_
    refine wp_exit ?_
    refine thenX ?_
    refine thenX ?_
    refine inBlkE ?_
    refine thenN ?_
    refine wp_stmt_seq [.val (Is (str l)),
      .val (Is (str (tl l))),
      .val (Is (str (tl l)))] [.inr 0] [.inl 2, .inr 0, .inr 1, .inr 2, .inr 3, .inr 4, .inr 5] follows S5 rfl (by kernel_rfl) ?_ ?_
    · refine ⟨⟨⟨trivial, ?_⟩, ?_⟩, ?_⟩
      · exact owe_move rfl (wants_all rfl) (Or.inl rfl) (opnd_slot 5 0 rfl (by kernel_rfl)) rfl
      · exact owe_callh2 rfl (wants_all rfl) rfl (opnd_op 0 23 (by kernel_rfl) rfl) ((opnd_const _).imp (fun _ _ h => h)) (fresh_is _) rfl (fun args w => by go_simp) (fun w u v h1 h2 => by obtain rfl : u = _ := h1.now; obtain rfl : v = _ := h2.now; exact trimp_w w l)
      · exact owe_move rfl (wants_all rfl) (Or.inr rfl) (opnd_op 1 24 (by kernel_rfl) rfl) rfl
    intro B6 a6 W6 S6
    replace S6 : Sta w 36 [(2, (.box 24 (Is (.agg #[.bool false, .slice none 0 0]))))] [(6, (Is (str (tl l)))), (14, (Is (.bool false))), (12, (Is (.int .i64 ((l).length : Nat)))), (13, (Is (.int .i64 k0))), (3, (Is (.int .i64 0))), (4, (Is (.int .i64 0))), (0, (Is (str l)))] B6 a6 W6 := S6
    refine wp_seq ?_
    refine wp_stmt_seq [.val (Is (str (tl l))),
      .val (Is (.bool false))] [.inr 0] [.inl 1, .inr 0, .inr 1, .inr 2, .inr 3, .inr 4, .inr 5, .inr 6] follows S6 rfl (by kernel_rfl) ?_ ?_
    · refine ⟨⟨trivial, ?_⟩, ?_⟩
      · exact owe_move rfl (wants_all rfl) (Or.inl rfl) (opnd_slot 0 6 rfl (by kernel_rfl)) rfl
      · exact owe_bin rfl (wants_all rfl) rfl (opnd_op 0 25 (by kernel_rfl) rfl) ((opnd_const _).imp (fun _ _ h => h)) rfl (fun ρ w h1 h2 => by exact run_eql_string_f ρ _ _ _ w _ _ ht h1 h2)
    intro B7 a7 W7 S7
    replace S7 : Sta w 36 [(2, (.box 24 (Is (.agg #[.bool false, .slice none 0 0]))))] [(26, (Is (.bool false))), (6, (Is (str (tl l)))), (14, (Is (.bool false))), (12, (Is (.int .i64 ((l).length : Nat)))), (13, (Is (.int .i64 k0))), (3, (Is (.int .i64 0))), (4, (Is (.int .i64 0))), (0, (Is (str l)))] B7 a7 W7 := S7
    refine wp_cond_false (S7.bool 0 26 rfl) ?_
    refine wp_skip ?_
    refine thenN ?_
    refine wp_stmt_seq [.val (Is (str l)),
      .val (Is (.int .u8 ((bt l 0 : Nat) : Int))),
      .val (Is (.bool (isN l))),
      .val (Is (str (tl l))),
      .val ((NN (decV (tl l))) w.heap.size),
      .val ((ZN (sg (isN l) (decV (tl l)))) w.heap.size),
      .put (.inl 2) (.box 24 ((ZN (sg (isN l) (decV (tl l)))) w.heap.size)),
      .val (Is (.int .i64 0)),
      .val (Is (.int .i64 0))] [.inr 0] [.inl 7, .inl 8, .inr 0, .inr 1, .inr 2, .inr 3, .inr 4, .inr 7] follows S7 rfl (by kernel_rfl) ?_ ?_
    · refine ⟨⟨⟨⟨⟨⟨⟨⟨⟨trivial, ?_⟩, ?_⟩, ?_⟩, ?_⟩, ?_⟩, ?_⟩, ?_⟩, ?_⟩, ?_⟩
      · exact owe_move rfl (wants_all rfl) (Or.inl rfl) (opnd_slot 7 0 rfl (by kernel_rfl)) rfl
      · exact owe_two rfl (wants_all rfl) rfl (opnd_op 0 30 (by kernel_rfl) rfl) (opnd_const _) rfl (fun ρ w h1 h2 => run_idx ρ _ _ _ w l 0 (by omega) h1 h2)
      · exact owe_bin rfl (wants_all rfl) rfl (opnd_op 1 31 (by kernel_rfl) rfl) (opnd_const _) rfl (fun ρ w h1 h2 => by exact run_isN ρ _ _ _ w l hp h1 h2)
      · exact owe_move rfl (wants_all rfl) (Or.inl rfl) (opnd_slot 1 6 rfl (by kernel_rfl)) rfl
      · exact owe_callh1 rfl (wants_all rfl) rfl (opnd_op 3 33 (by kernel_rfl) rfl) (fresh_nn _) rfl (fun args w => by go_simp) (fun w u h => by obtain rfl : u = _ := h.now; exact ofDigits_w w _ hdt htl)
      · exact owe_callF2 rfl (wants_all rfl) rfl (opnd_op 2 32 (by kernel_rfl) rfl) (opnd_op 4 34 (by kernel_rfl) rfl) rfl (fun args w => by go_simp) g_signed
      · exact owe_set rfl (wants_all rfl) rfl (k := 0) rfl (by kernel_rfl) (opnd_op 5 35 (by kernel_rfl) rfl) (stores_of strct_int shp_z0 shp_zn) rfl
      · exact owe_move rfl (wants_all rfl) (Or.inr rfl) (opnd_const _) rfl
      · exact owe_move rfl (wants_all rfl) (Or.inr rfl) (opnd_const _) rfl
    intro B8 a8 W8 S8
    replace S8 : Sta w 36 [(2, (.box 24 ((ZN (sg (isN l) (decV (tl l)))) w.heap.size)))] [(3, (Is (.int .i64 0))), (4, (Is (.int .i64 0))), (26, (Is (.bool false))), (6, (Is (str (tl l)))), (14, (Is (.bool false))), (12, (Is (.int .i64 ((l).length : Nat)))), (13, (Is (.int .i64 k0))), (0, (Is (str l)))] B8 a8 W8 := S8
    refine wp_ret ?_
    exact end_three S8 rfl (res_cell S8 0 2 rfl strct_int shp_zn) (res_tmp S8 0 3 rfl) (res_tmp S8 1 4 rfl)

theorem h_zread {l : List UInt8} {Z E : Int} {A : Nat} (h : RdIs l Z A E) : ∀ w u, Is (str l) u w → Calls Tryd.prog 8 #[u] w (Gives (THREE (ZN Z) (IS (.int .i64 (A : Nat))) (IS (.int .i64 E))) w) := by
  rintro w u rfl
  cases h with
  | long h => exact zn_zero3 (zread_long w l h)
  | bad i h1 h2 h3 h4 => exact zn_zero3 (zread_bad w l _ h1 h2 h3 h4)
  | none h1 h2 h3 => exact zn_zero3 (zread_none w l h1 h2 h3)
  | ok h1 h2 h3 => exact zread_ok w l h1 h2 h3
end Go.Proofs.YtoplejeljmpcpaaDoor
