/-
  ZintBack's walk: it returns true and writes nothing that was there.
-/
import Derived.Test.YtoplejeljmpcpaaDoorZBackMath
import Derived.Test.YtoplejeljmpcpaaDoorZBackEq
import Derived.Test.YtoplejeljmpcpaaDoorRRead
import Derived.Test.YtoplejeljmpcpaaDoorZText
import Derived.Test.YtoplejeljmpcpaaDoorZLaw
import Derived.Test.YtoplejeljmpcpaaDoorJoins
namespace Go.Proofs.YtoplejeljmpcpaaDoor
open Go Go.RowKit Nt
set_option linter.unusedSimpArgs false
set_option linter.unusedVariables false
set_option maxRecDepth 20000


theorem run_geq_u64_f (ρ : Operand → Value) (o : Oper) (x y : Operand) (w : World) (a b : Int) (h : a < b) (h1 : ρ x = .int .u64 a) (h2 : ρ y = .int .u64 b) : (execOp ρ { o with op := .binOp .geq 41 x y 41 }).run Tryd.prog w = .ok (.value (.bool false)) w := by
  unfold execOp
  go_simp
theorem run_lss_u64_f (ρ : Operand → Value) (o : Oper) (x y : Operand) (w : World) (a b : Int) (h : b ≤ a) (h1 : ρ x = .int .u64 a) (h2 : ρ y = .int .u64 b) : (execOp ρ { o with op := .binOp .lss 41 x y 41 }).run Tryd.prog w = .ok (.value (.bool false)) w := by
  unfold execOp
  go_simp
theorem run_conv_u64_i64 (ρ : Operand → Value) (o : Oper) (x : Operand) (w : World) (a : Int) (h : 0 ≤ a ∧ a < 9223372036854775808) (h1 : ρ x = .int .u64 a) : (execOp ρ { o with op := .convert 41 2 x }).run Tryd.prog w = .ok (.value (.int .i64 a)) w := by
  obtain ⟨h3, h4⟩ := h
  have h5 : IntKind.i64.wrap a = a := wrap64_id (by omega) (by omega)
  unfold execOp
  go_simp
theorem run_add_i64 (ρ : Operand → Value) (o : Oper) (x y : Operand) (w : World) (a b r : Int) (h : a + b = r ∧ -9223372036854775808 ≤ r ∧ r ≤ 9223372036854775807) (h1 : ρ x = .int .i64 a) (h2 : ρ y = .int .i64 b) : (execOp ρ { o with op := .binOp .add 2 x y 2 }).run Tryd.prog w = .ok (.value (.int .i64 r)) w := by
  obtain ⟨rfl, h3, h4⟩ := h
  have h5 : IntKind.i64.wrap (a + b) = a + b := wrap64_id h3 h4
  unfold execOp
  go_simp
theorem h_zabs {A : Int} {k : Nat} (hk : k ≤ 70368744177664) : ∀ w u, Zv A k u w → Calls Tryd.prog 22 #[u] w (Gives (ZN (A.natAbs : Int)) w) := by
  rintro w u ⟨s, p, n, c, xs, rfl, h, rfl, hn⟩
  refine (zabs_c w s p n c xs h (by omega)).mono ?_
  rintro e w' ⟨r, cr, rfl, Z⟩
  rw [sg_abs]
  exact za_gives Z

set_option maxHeartbeats 400000 in
theorem zalive_w (w : World) (hT : Tab w) :
    Calls Tryd.prog 11 #[] w (Gives (IS (.bool true)) w) := by
  have d1 : (digs (-7 : Int).natAbs).length ≤ 1 := dl_small (by decide)
  have d2 : (digs (6 : Int).natAbs).length ≤ 1 := dl_small (by decide)
  have d3 : (digs ((-7 : Int) * 6).natAbs).length ≤ 2 := Nat.le_trans (dl_small (by decide)) (by decide)
  refine calls_sta (sl := []) Tryd.func11 rfl Tryd.ntmps11 (by simp) args_nil ?_
  intro a0 S0
  replace S0 : Sta w 8 [] [(1000001, TT)] (fun _ => False) a0 w := S0.moreT 1000001 (tt_has hT)
  refine wp_stmt_seq [.val (Is (.bool false))] [] [.inl 0, .inr 0] follows S0 rfl (by kernel_rfl) ?_ ?_
  · refine ⟨trivial, ?_⟩
    · exact owe_move rfl (wants_all rfl) (Or.inr rfl) (opnd_const _) rfl
  intro B1 a1 W1 S1
  replace S1 : Sta w 8 [] [(0, (Is (.bool false))), (1000001, TT)] B1 a1 W1 := S1
  refine wp_stmt_seq [.val ((ZN (-7)) w.heap.size),
      .val ((ZN (6)) w.heap.size),
      .val ((ZN ((-7) * 6)) w.heap.size),
      .val (Is (str (txZ ((-7) * 6)))),
      .val (Is (str (txZ ((-7) * 6))))] [] [.inl 4, .inr 0, .inr 1] follows S1 rfl (by kernel_rfl) ?_ ?_
  · refine ⟨⟨⟨⟨⟨trivial, ?_⟩, ?_⟩, ?_⟩, ?_⟩, ?_⟩
    · exact owe_call1 rfl (wants_all rfl) rfl (opnd_const _) (fresh_zn _) rfl (fun args w => by go_simp) (g_zof (-7) (by omega) (by omega))
    · exact owe_call1 rfl (wants_all rfl) rfl (opnd_const _) (fresh_zn _) rfl (fun args w => by go_simp) (g_zof (6) (by omega) (by omega))
    · exact owe_call2 rfl (wants_all rfl) rfl (opnd_op 0 2 (by kernel_rfl) rfl) (opnd_op 1 3 (by kernel_rfl) rfl) (fresh_zn _) rfl (fun args w => by go_simp) (fun w u v h1 h2 => g_zmul (by omega) w u v ((zn_zv d1) _ _ h1) ((zn_zv d2) _ _ h2))
    · exact owe_callh1 rfl (wants_all rfl) rfl (opnd_tp ((opnd_op 2 4 (by kernel_rfl) rfl).imp (zn_zv d3)) (opnd_slot 1 1000001 rfl (by kernel_rfl))) (fresh_is _) rfl (fun args w => by go_simp) (fun w u h => h_ztext (by omega) w u (tp_out h).2 (tp_out h).1.now)
    · exact owe_move rfl (wants_all rfl) (Or.inr rfl) (opnd_op 3 5 (by kernel_rfl) rfl) rfl
  intro B2 a2 W2 S2
  replace S2 : Sta w 8 [] [(1, (Is (str (txZ ((-7) * 6))))), (0, (Is (.bool false))), (1000001, TT)] B2 a2 W2 := S2
  refine wp_stmt_seq [.val (Is (str (txZ ((-7) * 6)))),
      .val (Is (.bool true)),
      .val (Is (.bool true))] [] [.inl 2, .inr 2] follows S2 rfl (by kernel_rfl) ?_ ?_
  · refine ⟨⟨⟨trivial, ?_⟩, ?_⟩, ?_⟩
    · exact owe_move rfl (wants_all rfl) (Or.inl rfl) (opnd_slot 0 1 rfl (by kernel_rfl)) rfl
    · exact owe_bin rfl (wants_all rfl) rfl (opnd_op 0 6 (by kernel_rfl) rfl) ((opnd_const _).imp (fun _ _ h => h)) rfl (fun ρ w h1 h2 => by exact run_eql_string_t ρ _ _ _ w _ _ tx42 h1 h2)
    · exact owe_move rfl (wants_all rfl) (Or.inr rfl) (opnd_op 1 7 (by kernel_rfl) rfl) rfl
  intro B3 a3 W3 S3
  replace S3 : Sta w 8 [] [(0, (Is (.bool true))), (1000001, TT)] B3 a3 W3 := S3
  refine wp_ret ?_
  exact end_one S3 rfl (res_tmp S3 0 0 rfl)

theorem run_eqb (ρ : Operand → Value) (o : Oper) (x y : Operand) (w : World) (b : Bool) (h1 : ρ x = .bool b) (h2 : ρ y = .bool b) : (execOp ρ { o with op := .binOp .eql 4 x y 4 }).run Tryd.prog w = .ok (.value (.bool true)) w := by
  rw [run_eql_bool ρ _ _ _ w _ _ h1 h2]
  simp
theorem bl_len3 {X n : Nat} (h : (digs X).length ≤ n) : Go.bitLen X ≤ 32 * n := by
  obtain ⟨s1, s2⟩ := bitLen_spec X
  by_cases h0 : X = 0
  · rw [h0, show Go.bitLen 0 = 0 from rfl]; omega
  · have s3 := s2 h0
    apply Classical.byContradiction
    intro hc
    have h1 := lt_pow_digs X
    have h2 : (4294967296 : Nat) ^ (digs X).length ≤ 4294967296 ^ n := Nat.pow_le_pow_right (by omega) h
    have h3 : (4294967296 : Nat) ^ n = 2 ^ (32 * n) := by rw [Nat.pow_mul]
    have h4 : 2 ^ (32 * n) ≤ 2 ^ (Go.bitLen X - 1) := Nat.pow_le_pow_right (by omega) (by omega)
    omega
theorem txZ_bl {A : Int} {b : Nat} (h : Go.bitLen A.natAbs < b) : (txZ A).length ≤ b + 2 := by
  obtain ⟨s1, _⟩ := bitLen_spec A.natAbs
  have h1 : A.natAbs < 2 ^ b := Nat.lt_of_lt_of_le s1 (Nat.pow_le_pow_right (by omega) (by omega))
  have h2 := dec_pow b A.natAbs h1
  unfold txZ txN
  split
  · rw [List.length_cons]; omega
  · omega
theorem rd_dl {l : List UInt8} {Z E : Int} {A : Nat} (h : RdIs l Z A E) : (digs Z.natAbs).length ≤ 65536 := by
  have h0 : (digs (0 : Int).natAbs).length ≤ 65536 := by rw [show (0 : Int).natAbs = 0 from rfl, digs_zero]; exact Nat.zero_le _
  cases h with
  | long h => exact h0
  | bad i h1 h2 h3 h4 => exact h0
  | none h1 h2 h3 => exact h0
  | ok h1 h2 h3 =>
    rw [sg_abs]
    exact decV_dl (all_dig h2) (by unfold tl; split; (simp; omega); exact h1)

set_option maxHeartbeats 16000000 in
theorem zintback_w (w : World) (s : Bool) (p : Option Addr) (n c : Nat) (xs : List Nat) (h : Sl w p n c xs) (A : Int) (eA : sg s (val xs) = A) (hn : n ≤ 1048576) (l : List UInt8) (Z E0 : Int) (A0 : Nat) (hR : RdIs l Z A0 E0) (dZ : (digs Z.natAbs).length ≤ 65536) (hT : Tab w) (hT2 : T32 w) :
    Calls Tryd.prog 4 #[.agg #[.bool s, .slice p n c], str l] w (Gives (IS (.bool true)) w) := by
  have dA : (digs A.natAbs).length ≤ n := by rw [← eA]; exact sg_dl h
  have dR : (digs (rtV A).natAbs).length ≤ 1048576 := Nat.le_trans (rtV_dl dA) hn
  have dR1 : (digs (rtV A + 1).natAbs).length ≤ 1048577 := dl_add dR (Nat.le_trans (dl_small (a := 1) (by decide)) (by decide))
  have d1 : (digs (1 : Int).natAbs).length ≤ 1 := dl_small (by decide)
  have hbits : Go.bitLen A.natAbs ≤ 33554432 := by have := bl_len3 (Nat.le_trans dA hn); omega
  have htE : tE A ≤ 33554432 := by unfold tE; omega
  have htM := tM_lt A
  have dM : (digs ((tM A : Nat) : Int).natAbs).length ≤ 2 := tM_two A
  have dM1 : (digs (((tM A : Nat) : Int) + 1).natAbs).length ≤ 3 := dl_add dM (Nat.le_trans (dl_small (a := 1) (by decide)) (by decide))
  obtain ⟨dU, dN⟩ := sw_dl (Nat.le_trans dA hn)
  have dABS : (digs ((A.natAbs : Nat) : Int).natAbs).length ≤ 1048576 := Nat.le_trans dA hn
  refine calls_sta (sl := [(0, (Zx s p n c xs)), (1, (Is (str l)))]) Tryd.func4 rfl Tryd.ntmps4 (by simp) (args_cons rfl (zx_has h) (args_cons rfl (is_has _) args_nil)) ?_
  intro a0 S0
  replace S0 : Sta w 157 [] [(0, (Zx s p n c xs)), (1, (Is (str l))), (1000001, TT)] (fun _ => False) a0 w := S0.moreT 1000001 (tt_has hT)
  replace S0 : Sta w 157 [] [(0, (Zx s p n c xs)), (1, (Is (str l))), (1000001, TT), (0, TB)] (fun _ => False) a0 w := S0.more 0 (tb_has hT2)
  refine wp_stmt_seq [.new (.box 24 (Zx s p n c xs)),
      .val (Is (.bool false))] [.inl 0] [.inl 1, .inr 1, .inr 2, .inr 3] follows S0 rfl (by kernel_rfl) ?_ ?_
  · refine ⟨⟨trivial, ?_⟩, ?_⟩
    · exact owe_box rfl (wants_all rfl) rfl (opnd_slot 0 0 rfl (by kernel_rfl)) rfl (fun ρ w h => box_int shp_zx ρ _ _ w h)
    · exact owe_move rfl (wants_all rfl) (Or.inr rfl) (opnd_const _) rfl
  intro B1 a1 W1 S1
  replace S1 : Sta w 157 [(2, (.box 24 (Zx s p n c xs)))] [(4, (Is (.bool false))), (1, (Is (str l))), (1000001, TT), (0, TB)] B1 a1 W1 := S1
  refine wp_seq ?_
  refine wp_stmt_seq [.val (Is (.bool true)),
      .val (Is (.bool false))] [.inr 0] [.inl 1, .inr 0, .inr 1, .inr 2, .inr 3] follows S1 rfl (by kernel_rfl) ?_ ?_
  · refine ⟨⟨trivial, ?_⟩, ?_⟩
    · exact owe_call0T rfl (wants_all rfl) rfl (opnd_slot 2 1000001 rfl (by kernel_rfl)) (fresh_is _) rfl (fun args w => by go_simp) zalive_w
    · exact owe_un (x := .tmp 20) rfl (wants_all rfl) rfl (opnd_op 0 20 (by kernel_rfl) rfl) rfl (fun ρ w h1 => run_not ρ _ _ w _ h1)
  intro B2 a2 W2 S2
  replace S2 : Sta w 157 [(2, (.box 24 (Zx s p n c xs)))] [(21, (Is (.bool false))), (4, (Is (.bool false))), (1, (Is (str l))), (1000001, TT), (0, TB)] B2 a2 W2 := S2
  refine wp_cond_false (S2.bool 0 21 rfl) ?_
  refine wp_skip ?_
  refine thenN ?_
  refine wp_seq_join (fun a W => ∃ Bq, Sta w 157 [(2, (.box 24 (Zx s p n c xs)))] [(1, (Is (str l))), (1000001, TT), (0, TB)] Bq a W) ?_ ?_
  · rintro a3 W3 ⟨B3, S3⟩
    refine wp_stmt_seq [.val (Is (str l)),
      .val ((THREE (ZN (Z)) (IS (.int .i64 (A0 : Nat))) (IS (.int .i64 E0))) w.heap.size),
      .val ((THREE (ZN (Z)) (IS (.int .i64 (A0 : Nat))) (IS (.int .i64 E0))) w.heap.size),
      .val ((ZN (Z)) w.heap.size),
      .val (Is (.int .i64 (A0 : Nat))),
      .val (Is (.int .i64 E0)),
      .new (.box 24 (Is (.agg #[.bool false, .slice none 0 0]))),
      .put (.inr 6) (.box 24 ((ZN (Z)) w.heap.size)),
      .val (Is (.int .i64 (A0 : Nat))),
      .val (Is (.int .i64 E0))] [.inr 0, .inl 6] [.inl 9, .inr 0, .inr 1, .inr 2] follows S3 rfl (by kernel_rfl) ?_ ?_
    · refine ⟨⟨⟨⟨⟨⟨⟨⟨⟨⟨trivial, ?_⟩, ?_⟩, ?_⟩, ?_⟩, ?_⟩, ?_⟩, ?_⟩, ?_⟩, ?_⟩, ?_⟩
      · exact owe_move rfl (wants_all rfl) (Or.inl rfl) (opnd_slot 0 1 rfl (by kernel_rfl)) rfl
      · exact owe_callh1 rfl (wants_all rfl) rfl (opnd_op 0 46 (by kernel_rfl) rfl) (fresh_three (fresh_zn _) (fresh_is _) (fresh_is _)) rfl (fun args w => by go_simp) (fun w u h => h_zread hR w u h.now)
      · exact owe_move rfl (wants_all rfl) (Or.inl rfl) (opnd_op 1 47 (by kernel_rfl) rfl) rfl
      · exact owe_ext3 rfl (wants_all rfl) rfl (opnd_op 2 45 (by kernel_rfl) rfl) (Or.inl ⟨rfl, rfl⟩) rfl
      · exact owe_ext3 rfl (wants_all rfl) rfl (opnd_op 2 45 (by kernel_rfl) rfl) (Or.inr (Or.inl ⟨rfl, rfl⟩)) rfl
      · exact owe_ext3 rfl (wants_all rfl) rfl (opnd_op 2 45 (by kernel_rfl) rfl) (Or.inr (Or.inr ⟨rfl, rfl⟩)) rfl
      · exact owe_new rfl (wants_all rfl) rfl rfl (fun ρ w => alloc_int ρ _ w)
      · exact owe_put 6 rfl (wants_all rfl) rfl (by kernel_rfl) rfl (opnd_op 3 48 (by kernel_rfl) rfl) (stores_of strct_int shp_z0 shp_zn) rfl
      · exact owe_move rfl (wants_all rfl) (Or.inr rfl) (opnd_op 4 49 (by kernel_rfl) rfl) rfl
      · exact owe_move rfl (wants_all rfl) (Or.inr rfl) (opnd_op 5 50 (by kernel_rfl) rfl) rfl
    intro B4 a4 W4 S4
    replace S4 : Sta w 157 [(2, (.box 24 (Zx s p n c xs))), (8, (.box 24 ((ZN (Z)) w.heap.size)))] [(10, (Is (.int .i64 E0))), (1, (Is (str l))), (1000001, TT), (0, TB)] B4 a4 W4 := S4
    by_cases hE0 : E0 = 0
    · skip
      have hrt := rd_txt hR hE0
      refine wp_seq ?_
      refine wp_stmt_seq [.val (Is (.int .i64 E0)),
      .val (Is (.bool true)),
      .val (Is (.bool true)),
      .val ((ZN (Z)) w.heap.size),
      .val (Is (str (txZ (Z)))),
      .val (Is (str l)),
      .val (Is (.bool false)),
      .val (Is (.bool false))] [.inr 0, .inr 1] [.inl 7, .inr 0, .inr 1, .inr 2, .inr 3] follows S4 rfl (by kernel_rfl) ?_ ?_
      · refine ⟨⟨⟨⟨⟨⟨⟨⟨trivial, ?_⟩, ?_⟩, ?_⟩, ?_⟩, ?_⟩, ?_⟩, ?_⟩, ?_⟩
        · exact owe_move rfl (wants_all rfl) (Or.inl rfl) (opnd_slot 0 10 rfl (by kernel_rfl)) rfl
        · exact owe_bin rfl (wants_all rfl) rfl (opnd_op 0 51 (by kernel_rfl) rfl) (opnd_const _) rfl (fun ρ w h1 h2 => by exact run_eql_errno_t ρ _ _ _ w _ _ hE0 h1 h2)
        · exact owe_move rfl (wants_all rfl) (Or.inl rfl) (opnd_op 1 52 (by kernel_rfl) rfl) rfl
        · exact owe_load rfl (wants_if 2 53 rfl (by kernel_rfl) rfl) rfl (k := 1) rfl (by kernel_rfl) (loads_of strct_int shp_zn) rfl
        · exact owe_callh1 rfl (wants_if 2 53 rfl (by kernel_rfl) rfl) rfl (opnd_tp ((opnd_op 3 54 (by kernel_rfl) rfl).imp (zn_zv dZ)) (opnd_slot 2 1000001 rfl (by kernel_rfl))) (fresh_is _) rfl (fun args w => by go_simp) (fun w u h => h_ztext (by omega) w u (tp_out h).2 (tp_out h).1.now)
        · exact owe_move rfl (wants_if 2 53 rfl (by kernel_rfl) rfl) (Or.inl rfl) (opnd_slot 1 1 rfl (by kernel_rfl)) rfl
        · exact owe_bin rfl (wants_if 2 53 rfl (by kernel_rfl) rfl) rfl (opnd_op 4 55 (by kernel_rfl) rfl) (opnd_op 5 56 (by kernel_rfl) rfl) rfl (fun ρ w h1 h2 => by exact run_neq_string_f ρ _ _ _ w _ _ hrt h1 h2)
        · exact owe_pick rfl (wants_all rfl) rfl (opnd_op 2 53 (by kernel_rfl) rfl) (fun _ => (opnd_op 6 57 (by kernel_rfl) rfl)) (fun h => nomatch h) rfl
      intro B5 a5 W5 S5
      replace S5 : Sta w 157 [(2, (.box 24 (Zx s p n c xs))), (8, (.box 24 ((ZN (Z)) w.heap.size)))] [(58, (Is (.bool false))), (10, (Is (.int .i64 E0))), (1, (Is (str l))), (1000001, TT), (0, TB)] B5 a5 W5 := S5
      refine wp_cond_false (S5.bool 0 58 rfl) ?_
      refine wp_skip ?_
      refine thenN ?_
      refine wp_stmt_seq [.val (Zx s p n c xs),
      .val ((TWO (ZN (rtV (A))) (IS (.int .i64 (rtE (A))))) w.heap.size),
      .val ((TWO (ZN (rtV (A))) (IS (.int .i64 (rtE (A))))) w.heap.size),
      .val ((ZN (rtV (A))) w.heap.size),
      .val (Is (.int .i64 (rtE (A)))),
      .new (.box 24 (Is (.agg #[.bool false, .slice none 0 0]))),
      .put (.inr 5) (.box 24 ((ZN (rtV (A))) w.heap.size)),
      .val (Is (.int .i64 (rtE (A))))] [.inr 0, .inr 1, .inl 5] [.inl 7, .inr 0, .inr 2, .inr 3, .inr 4] follows S5 rfl (by kernel_rfl) ?_ ?_
      · refine ⟨⟨⟨⟨⟨⟨⟨⟨trivial, ?_⟩, ?_⟩, ?_⟩, ?_⟩, ?_⟩, ?_⟩, ?_⟩, ?_⟩
        · exact owe_load rfl (wants_all rfl) rfl (k := 0) rfl (by kernel_rfl) (loads_of strct_int shp_zx) rfl
        · exact owe_call1 rfl (wants_all rfl) rfl (opnd_op 0 60 (by kernel_rfl) rfl) (fresh_two (fresh_zn _) (fresh_is _)) rfl (fun args w => by go_simp) (fun w u h1 => g_zroot (by omega) w u ((zx_zv' eA (Nat.le_refl _)) _ _ h1))
        · exact owe_move rfl (wants_all rfl) (Or.inl rfl) (opnd_op 1 61 (by kernel_rfl) rfl) rfl
        · exact owe_ext2 rfl (wants_all rfl) rfl (opnd_op 2 59 (by kernel_rfl) rfl) (Or.inl ⟨rfl, rfl⟩) rfl
        · exact owe_ext2 rfl (wants_all rfl) rfl (opnd_op 2 59 (by kernel_rfl) rfl) (Or.inr ⟨rfl, rfl⟩) rfl
        · exact owe_new rfl (wants_all rfl) rfl rfl (fun ρ w => alloc_int ρ _ w)
        · exact owe_put 5 rfl (wants_all rfl) rfl (by kernel_rfl) rfl (opnd_op 3 62 (by kernel_rfl) rfl) (stores_of strct_int shp_z0 shp_zn) rfl
        · exact owe_move rfl (wants_all rfl) (Or.inr rfl) (opnd_op 4 63 (by kernel_rfl) rfl) rfl
      intro B6 a6 W6 S6
      replace S6 : Sta w 157 [(2, (.box 24 (Zx s p n c xs))), (8, (.box 24 ((ZN (Z)) w.heap.size))), (11, (.box 24 ((ZN (rtV (A))) w.heap.size)))] [(10, (Is (.int .i64 (rtE (A))))), (58, (Is (.bool false))), (1, (Is (str l))), (1000001, TT), (0, TB)] B6 a6 W6 := S6
      refine wp_have3 (fun a W => ∃ Bq, Sta w 157 [(2, (.box 24 (Zx s p n c xs)))] [(0, TB)] Bq a W) ?_ (fun tail6 => ?_)
      · rintro a7 W7 ⟨B7, S7⟩
        refine wp_stmt_seq [.val (Zx s p n c xs),
      .val ((THREE (IS (.int .u64 (tM A : Nat))) (IS (.int .i64 (tE A : Nat))) (IS (.bool (tI A)))) w.heap.size),
      .val ((THREE (IS (.int .u64 (tM A : Nat))) (IS (.int .i64 (tE A : Nat))) (IS (.bool (tI A)))) w.heap.size),
      .val (Is (.int .u64 (tM A : Nat))),
      .val (Is (.int .i64 (tE A : Nat))),
      .val (Is (.bool (tI A))),
      .val (Is (.int .u64 (tM A : Nat))),
      .val (Is (.int .i64 (tE A : Nat))),
      .val (Is (.bool (tI A)))] [.inr 0] [.inl 6, .inl 7, .inl 8, .inr 0] follows S7 rfl (by kernel_rfl) ?_ ?_
        · refine ⟨⟨⟨⟨⟨⟨⟨⟨⟨trivial, ?_⟩, ?_⟩, ?_⟩, ?_⟩, ?_⟩, ?_⟩, ?_⟩, ?_⟩, ?_⟩
          · exact owe_load rfl (wants_all rfl) rfl (k := 0) rfl (by kernel_rfl) (loads_of strct_int shp_zx) rfl
          · exact owe_call1T rfl (wants_all rfl) rfl (opnd_op 0 97 (by kernel_rfl) rfl) (opnd_slot 0 0 rfl (by kernel_rfl)) (fresh_three (fresh_is _) (fresh_is _) (fresh_is _)) rfl (fun args w => by go_simp) (fun w u hT h1 => g_ztop (by omega) w u hT ((zx_zv' eA (Nat.le_refl _)) _ _ h1))
          · exact owe_move rfl (wants_all rfl) (Or.inl rfl) (opnd_op 1 98 (by kernel_rfl) rfl) rfl
          · exact owe_ext3 rfl (wants_all rfl) rfl (opnd_op 2 96 (by kernel_rfl) rfl) (Or.inl ⟨rfl, rfl⟩) rfl
          · exact owe_ext3 rfl (wants_all rfl) rfl (opnd_op 2 96 (by kernel_rfl) rfl) (Or.inr (Or.inl ⟨rfl, rfl⟩)) rfl
          · exact owe_ext3 rfl (wants_all rfl) rfl (opnd_op 2 96 (by kernel_rfl) rfl) (Or.inr (Or.inr ⟨rfl, rfl⟩)) rfl
          · exact owe_move rfl (wants_all rfl) (Or.inr rfl) (opnd_op 3 99 (by kernel_rfl) rfl) rfl
          · exact owe_move rfl (wants_all rfl) (Or.inr rfl) (opnd_op 4 100 (by kernel_rfl) rfl) rfl
          · exact owe_move rfl (wants_all rfl) (Or.inr rfl) (opnd_op 5 101 (by kernel_rfl) rfl) rfl
        intro B8 a8 W8 S8
        replace S8 : Sta w 157 [(2, (.box 24 (Zx s p n c xs)))] [(13, (Is (.int .u64 (tM A : Nat)))), (14, (Is (.int .i64 (tE A : Nat)))), (15, (Is (.bool (tI A)))), (0, TB)] B8 a8 W8 := S8
        refine wp_seq_join (fun a W => ∃ Bq, Sta w 157 [(2, (.box 24 (Zx s p n c xs)))] [(13, (Is (.int .u64 (tM A : Nat)))), (14, (Is (.int .i64 (tE A : Nat)))), (15, (Is (.bool (tI A))))] Bq a W) ?_ ?_
        · rintro a9 W9 ⟨B9, S9⟩
          refine wp_stmt_seq [.val (Is (.int .u64 (tM A : Nat))),
      .val (Is (.int .i64 ((tM A : Nat) : Int))),
      .val ((ZN ((tM A : Nat) : Int)) w.heap.size),
      .val (Is (.int .i64 (tE A : Nat))),
      .val ((TWO (ZN (sw ((tM A : Nat) : Int) ((tE A : Nat) : Int))) (IS (.int .i64 (se ((tE A : Nat) : Int))))) w.heap.size),
      .val ((TWO (ZN (sw ((tM A : Nat) : Int) ((tE A : Nat) : Int))) (IS (.int .i64 (se ((tE A : Nat) : Int))))) w.heap.size),
      .val ((ZN (sw ((tM A : Nat) : Int) ((tE A : Nat) : Int))) w.heap.size),
      .val (Is (.int .i64 (se ((tE A : Nat) : Int)))),
      .new (.box 24 (Is (.agg #[.bool false, .slice none 0 0]))),
      .put (.inr 8) (.box 24 ((ZN (sw ((tM A : Nat) : Int) ((tE A : Nat) : Int))) w.heap.size)),
      .val (Is (.int .i64 (se ((tE A : Nat) : Int))))] [.inr 0, .inl 8] [.inl 10, .inr 0, .inr 1, .inr 2] follows S9 rfl (by kernel_rfl) ?_ ?_
          · refine ⟨⟨⟨⟨⟨⟨⟨⟨⟨⟨⟨trivial, ?_⟩, ?_⟩, ?_⟩, ?_⟩, ?_⟩, ?_⟩, ?_⟩, ?_⟩, ?_⟩, ?_⟩, ?_⟩
            · exact owe_move rfl (wants_all rfl) (Or.inl rfl) (opnd_slot 0 13 rfl (by kernel_rfl)) rfl
            · exact owe_un (x := .tmp 117) rfl (wants_all rfl) rfl (opnd_op 0 117 (by kernel_rfl) rfl) rfl (fun ρ w h1 => by exact run_conv_u64_i64 ρ _ _ w _ ⟨by omega, by omega⟩ h1)
            · exact owe_call1 rfl (wants_all rfl) rfl (opnd_op 1 118 (by kernel_rfl) rfl) (fresh_zn _) rfl (fun args w => by go_simp) (g_zof ((tM A : Nat) : Int) (by omega) (by omega))
            · exact owe_move rfl (wants_all rfl) (Or.inl rfl) (opnd_slot 1 14 rfl (by kernel_rfl)) rfl
            · exact owe_call2 rfl (wants_all rfl) rfl (opnd_op 2 119 (by kernel_rfl) rfl) (opnd_op 3 120 (by kernel_rfl) rfl) (fresh_two (fresh_zn _) (fresh_is _)) rfl (fun args w => by go_simp) (fun w u v h1 h2 => g_zshift (z := ((tE A : Nat) : Int)) (by omega) (by omega) (by omega) w u v ((zn_zv (Nat.le_refl _)) _ _ h1) h2)
            · exact owe_move rfl (wants_all rfl) (Or.inl rfl) (opnd_op 4 121 (by kernel_rfl) rfl) rfl
            · exact owe_ext2 rfl (wants_all rfl) rfl (opnd_op 5 116 (by kernel_rfl) rfl) (Or.inl ⟨rfl, rfl⟩) rfl
            · exact owe_ext2 rfl (wants_all rfl) rfl (opnd_op 5 116 (by kernel_rfl) rfl) (Or.inr ⟨rfl, rfl⟩) rfl
            · exact owe_new rfl (wants_all rfl) rfl rfl (fun ρ w => alloc_int ρ _ w)
            · exact owe_put 8 rfl (wants_all rfl) rfl (by kernel_rfl) rfl (opnd_op 6 122 (by kernel_rfl) rfl) (stores_of strct_int shp_z0 shp_zn) rfl
            · exact owe_move rfl (wants_all rfl) (Or.inr rfl) (opnd_op 7 123 (by kernel_rfl) rfl) rfl
          intro B10 a10 W10 S10
          replace S10 : Sta w 157 [(2, (.box 24 (Zx s p n c xs))), (16, (.box 24 ((ZN (sw ((tM A : Nat) : Int) ((tE A : Nat) : Int))) w.heap.size)))] [(17, (Is (.int .i64 (se ((tE A : Nat) : Int))))), (13, (Is (.int .u64 (tM A : Nat)))), (14, (Is (.int .i64 (tE A : Nat)))), (15, (Is (.bool (tI A))))] B10 a10 W10 := S10
          refine wp_stmt_seq [.val (Is (.int .u64 (tM A : Nat))),
      .val (Is (.int .i64 ((tM A : Nat) : Int))),
      .val (Is (.int .i64 (((tM A : Nat) : Int) + 1))),
      .val ((ZN (((tM A : Nat) : Int) + 1)) w.heap.size),
      .val (Is (.int .i64 (tE A : Nat))),
      .val ((TWO (ZN (sw (((tM A : Nat) : Int) + 1) ((tE A : Nat) : Int))) (IS (.int .i64 (se ((tE A : Nat) : Int))))) w.heap.size),
      .val ((TWO (ZN (sw (((tM A : Nat) : Int) + 1) ((tE A : Nat) : Int))) (IS (.int .i64 (se ((tE A : Nat) : Int))))) w.heap.size),
      .val ((ZN (sw (((tM A : Nat) : Int) + 1) ((tE A : Nat) : Int))) w.heap.size),
      .val (Is (.int .i64 (se ((tE A : Nat) : Int)))),
      .new (.box 24 (Is (.agg #[.bool false, .slice none 0 0]))),
      .put (.inr 9) (.box 24 ((ZN (sw (((tM A : Nat) : Int) + 1) ((tE A : Nat) : Int))) w.heap.size)),
      .val (Is (.int .i64 (se ((tE A : Nat) : Int))))] [.inr 0, .inr 1, .inl 9] [.inr 0, .inr 1, .inr 2, .inr 3] follows S10 rfl (by kernel_rfl) ?_ ?_
          · refine ⟨⟨⟨⟨⟨⟨⟨⟨⟨⟨⟨⟨trivial, ?_⟩, ?_⟩, ?_⟩, ?_⟩, ?_⟩, ?_⟩, ?_⟩, ?_⟩, ?_⟩, ?_⟩, ?_⟩, ?_⟩
            · exact owe_move rfl (wants_all rfl) (Or.inl rfl) (opnd_slot 1 13 rfl (by kernel_rfl)) rfl
            · exact owe_un (x := .tmp 125) rfl (wants_all rfl) rfl (opnd_op 0 125 (by kernel_rfl) rfl) rfl (fun ρ w h1 => by exact run_conv_u64_i64 ρ _ _ w _ ⟨by omega, by omega⟩ h1)
            · exact owe_bin rfl (wants_all rfl) rfl (opnd_op 1 126 (by kernel_rfl) rfl) (opnd_const _) rfl (fun ρ w h1 h2 => by exact run_add_i64 ρ _ _ _ w _ _ _ ⟨rfl, by omega, by omega⟩ h1 h2)
            · exact owe_call1 rfl (wants_all rfl) rfl (opnd_op 2 127 (by kernel_rfl) rfl) (fresh_zn _) rfl (fun args w => by go_simp) (g_zof (((tM A : Nat) : Int) + 1) (by omega) (by omega))
            · exact owe_move rfl (wants_all rfl) (Or.inl rfl) (opnd_slot 2 14 rfl (by kernel_rfl)) rfl
            · exact owe_call2 rfl (wants_all rfl) rfl (opnd_op 3 128 (by kernel_rfl) rfl) (opnd_op 4 129 (by kernel_rfl) rfl) (fresh_two (fresh_zn _) (fresh_is _)) rfl (fun args w => by go_simp) (fun w u v h1 h2 => g_zshift (z := ((tE A : Nat) : Int)) (by omega) (by omega) (by omega) w u v ((zn_zv dM1) _ _ h1) h2)
            · exact owe_move rfl (wants_all rfl) (Or.inl rfl) (opnd_op 5 130 (by kernel_rfl) rfl) rfl
            · exact owe_ext2 rfl (wants_all rfl) rfl (opnd_op 6 124 (by kernel_rfl) rfl) (Or.inl ⟨rfl, rfl⟩) rfl
            · exact owe_ext2 rfl (wants_all rfl) rfl (opnd_op 6 124 (by kernel_rfl) rfl) (Or.inr ⟨rfl, rfl⟩) rfl
            · exact owe_new rfl (wants_all rfl) rfl rfl (fun ρ w => alloc_int ρ _ w)
            · exact owe_put 9 rfl (wants_all rfl) rfl (by kernel_rfl) rfl (opnd_op 7 131 (by kernel_rfl) rfl) (stores_of strct_int shp_z0 shp_zn) rfl
            · exact owe_move rfl (wants_all rfl) (Or.inr rfl) (opnd_op 8 132 (by kernel_rfl) rfl) rfl
          intro B11 a11 W11 S11
          replace S11 : Sta w 157 [(2, (.box 24 (Zx s p n c xs))), (16, (.box 24 ((ZN (sw ((tM A : Nat) : Int) ((tE A : Nat) : Int))) w.heap.size))), (18, (.box 24 ((ZN (sw (((tM A : Nat) : Int) + 1) ((tE A : Nat) : Int))) w.heap.size)))] [(17, (Is (.int .i64 (se ((tE A : Nat) : Int))))), (13, (Is (.int .u64 (tM A : Nat)))), (14, (Is (.int .i64 (tE A : Nat)))), (15, (Is (.bool (tI A))))] B11 a11 W11 := S11
          rcases Nat.lt_or_ge 65536 (tE A) with hf | hf
          · skip
            obtain ⟨u1, u2, u3⟩ := top_far hf
            refine wp_seq ?_
            refine wp_stmt_seq [.val (Is (.int .i64 (se ((tE A : Nat) : Int)))),
      .val (Is (.bool true))] [.inr 0, .inr 1, .inr 2] [.inl 1, .inr 1, .inr 2, .inr 3] follows S11 rfl (by kernel_rfl) ?_ ?_
            · refine ⟨⟨trivial, ?_⟩, ?_⟩
              · exact owe_move rfl (wants_all rfl) (Or.inl rfl) (opnd_slot 0 17 rfl (by kernel_rfl)) rfl
              · exact owe_bin rfl (wants_all rfl) rfl (opnd_op 0 133 (by kernel_rfl) rfl) (opnd_const _) rfl (fun ρ w h1 h2 => by exact run_neq_errno_t ρ _ _ _ w _ _ (by rw [u3]; decide) h1 h2)
            intro B12 a12 W12 S12
            replace S12 : Sta w 157 [(2, (.box 24 (Zx s p n c xs))), (16, (.box 24 ((ZN (sw ((tM A : Nat) : Int) ((tE A : Nat) : Int))) w.heap.size))), (18, (.box 24 ((ZN (sw (((tM A : Nat) : Int) + 1) ((tE A : Nat) : Int))) w.heap.size)))] [(134, (Is (.bool true))), (13, (Is (.int .u64 (tM A : Nat)))), (14, (Is (.int .i64 (tE A : Nat)))), (15, (Is (.bool (tI A))))] B12 a12 W12 := S12
            refine wp_cond_true (S12.bool 0 134 rfl) ?_
            refine wp_stmt_seq [.val (Is (.int .i64 (tE A : Nat))),
      .val (Is (.bool true)),
      .val (Is (.bool true))] [.inr 0, .inr 1, .inr 2] [.inl 2, .inr 0, .inr 1, .inr 2, .inr 3] follows S12 rfl (by kernel_rfl) ?_ ?_
            · refine ⟨⟨⟨trivial, ?_⟩, ?_⟩, ?_⟩
              · exact owe_move rfl (wants_all rfl) (Or.inl rfl) (opnd_slot 2 14 rfl (by kernel_rfl)) rfl
              · exact owe_bin rfl (wants_all rfl) rfl (opnd_op 0 135 (by kernel_rfl) rfl) (opnd_const _) rfl (fun ρ w h1 h2 => by exact run_gtr_int_t ρ _ _ _ w _ _ (by omega) h1 h2)
              · exact owe_move rfl (wants_all rfl) (Or.inr rfl) (opnd_op 1 136 (by kernel_rfl) rfl) rfl
            intro B13 a13 W13 S13
            replace S13 : Sta w 157 [(2, (.box 24 (Zx s p n c xs))), (16, (.box 24 ((ZN (sw ((tM A : Nat) : Int) ((tE A : Nat) : Int))) w.heap.size))), (18, (.box 24 ((ZN (sw (((tM A : Nat) : Int) + 1) ((tE A : Nat) : Int))) w.heap.size)))] [(4, (Is (.bool true))), (134, (Is (.bool true))), (13, (Is (.int .u64 (tM A : Nat)))), (14, (Is (.int .i64 (tE A : Nat)))), (15, (Is (.bool (tI A))))] B13 a13 W13 := S13
            refine wp_ret ?_
            refine thenR ?_
            exact end_one S13 rfl (res_tmp S13 0 4 rfl)
          · skip
            obtain ⟨u1, u2, u3⟩ := top_up hf
            have tlo := top_lo A
            have thi := top_hi A
            have u1n : 0 ≤ sw ((tM A : Nat) : Int) ((tE A : Nat) : Int) := by rw [u1]; omega
            have c1 : (sw ((tM A : Nat) : Int) ((tE A : Nat) : Int) - ((A.natAbs : Nat) : Int)).sign ≤ 0 := sgn_le (by rw [u1]; omega)
            have c2 : 0 < (sw (((tM A : Nat) : Int) + 1) ((tE A : Nat) : Int) - ((A.natAbs : Nat) : Int)).sign := sgn_gt (by rw [u2]; omega)
            refine wp_seq ?_
            refine wp_stmt_seq [.val (Is (.int .i64 (se ((tE A : Nat) : Int)))),
      .val (Is (.bool false))] [.inr 0, .inr 1, .inr 2] [.inl 1, .inr 1, .inr 2, .inr 3] follows S11 rfl (by kernel_rfl) ?_ ?_
            · refine ⟨⟨trivial, ?_⟩, ?_⟩
              · exact owe_move rfl (wants_all rfl) (Or.inl rfl) (opnd_slot 0 17 rfl (by kernel_rfl)) rfl
              · exact owe_bin rfl (wants_all rfl) rfl (opnd_op 0 133 (by kernel_rfl) rfl) (opnd_const _) rfl (fun ρ w h1 h2 => by exact run_neq_errno_f ρ _ _ _ w _ _ u3 h1 h2)
            intro B12 a12 W12 S12
            replace S12 : Sta w 157 [(2, (.box 24 (Zx s p n c xs))), (16, (.box 24 ((ZN (sw ((tM A : Nat) : Int) ((tE A : Nat) : Int))) w.heap.size))), (18, (.box 24 ((ZN (sw (((tM A : Nat) : Int) + 1) ((tE A : Nat) : Int))) w.heap.size)))] [(134, (Is (.bool false))), (13, (Is (.int .u64 (tM A : Nat)))), (14, (Is (.int .i64 (tE A : Nat)))), (15, (Is (.bool (tI A))))] B12 a12 W12 := S12
            refine wp_cond_false (S12.bool 0 134 rfl) ?_
            refine wp_skip ?_
            refine thenN ?_
            rcases (show (tI A = true ∧ sw ((tM A : Nat) : Int) ((tE A : Nat) : Int) = ((A.natAbs : Nat) : Int)) ∨ (tI A = false ∧ sw ((tM A : Nat) : Int) ((tE A : Nat) : Int) ≠ ((A.natAbs : Nat) : Int)) from by have ti := top_is A; rw [u1]; cases hI : tI A with | true => exact Or.inl ⟨rfl, by have := ti.1 hI; omega⟩ | false => exact Or.inr ⟨rfl, fun e => by have := ti.2 (by omega); rw [hI] at this; cases this⟩) with ⟨hI, hUA⟩ | ⟨hI, hUA⟩
            · skip
              refine wp_stmt_seq [.val ((ZN (sw ((tM A : Nat) : Int) ((tE A : Nat) : Int))) w.heap.size),
      .val (Zx s p n c xs),
      .val ((ZN (((A.natAbs : Nat) : Int))) w.heap.size),
      .val (Is (.int .i64 ((sw ((tM A : Nat) : Int) ((tE A : Nat) : Int)) - (((A.natAbs : Nat) : Int))).sign)),
      .val (Is (.bool true)),
      .val (Is (.bool true)),
      .val ((ZN (sw (((tM A : Nat) : Int) + 1) ((tE A : Nat) : Int))) w.heap.size),
      .val (Zx s p n c xs),
      .val ((ZN (((A.natAbs : Nat) : Int))) w.heap.size),
      .val (Is (.int .i64 ((sw (((tM A : Nat) : Int) + 1) ((tE A : Nat) : Int)) - (((A.natAbs : Nat) : Int))).sign)),
      .val (Is (.bool true)),
      .val (Is (.bool true)),
      .val (Is (.bool true)),
      .val (Is (.bool (tI A))),
      .val ((ZN (sw ((tM A : Nat) : Int) ((tE A : Nat) : Int))) w.heap.size),
      .val (Zx s p n c xs),
      .val ((ZN (((A.natAbs : Nat) : Int))) w.heap.size),
      .val (Is (.bool true)),
      .val (Is (.bool true)),
      .val (Is (.bool true)),
      .val (Is (.bool true))] [.inr 0, .inr 1, .inr 2] [.inl 20, .inr 0, .inr 1, .inr 2] follows S12 rfl (by kernel_rfl) ?_ ?_
              · refine ⟨⟨⟨⟨⟨⟨⟨⟨⟨⟨⟨⟨⟨⟨⟨⟨⟨⟨⟨⟨⟨trivial, ?_⟩, ?_⟩, ?_⟩, ?_⟩, ?_⟩, ?_⟩, ?_⟩, ?_⟩, ?_⟩, ?_⟩, ?_⟩, ?_⟩, ?_⟩, ?_⟩, ?_⟩, ?_⟩, ?_⟩, ?_⟩, ?_⟩, ?_⟩, ?_⟩
                · exact owe_load rfl (wants_all rfl) rfl (k := 1) rfl (by kernel_rfl) (loads_of strct_int shp_zn) rfl
                · exact owe_load rfl (wants_all rfl) rfl (k := 0) rfl (by kernel_rfl) (loads_of strct_int shp_zx) rfl
                · exact owe_call1 rfl (wants_all rfl) rfl (opnd_op 1 138 (by kernel_rfl) rfl) (fresh_zn _) rfl (fun args w => by go_simp) (fun w u h1 => h_zabs (by omega) w u ((zx_zv' eA (Nat.le_refl _)) _ _ h1))
                · exact owe_call2 rfl (wants_all rfl) rfl (opnd_op 0 137 (by kernel_rfl) rfl) (opnd_op 2 139 (by kernel_rfl) rfl) (fresh_is _) rfl (fun args w => by go_simp) (fun w u v h1 h2 => h_zcmp (by omega) (by omega) w u v ((zn_zv dU) _ _ h1) ((zn_zv dABS) _ _ h2))
                · exact owe_bin rfl (wants_all rfl) rfl (opnd_op 3 140 (by kernel_rfl) rfl) (opnd_const _) rfl (fun ρ w h1 h2 => by exact run_leq_int_t ρ _ _ _ w _ _ c1 h1 h2)
                · exact owe_move rfl (wants_all rfl) (Or.inl rfl) (opnd_op 4 141 (by kernel_rfl) rfl) rfl
                · exact owe_load rfl (wants_if 5 142 rfl (by kernel_rfl) rfl) rfl (k := 2) rfl (by kernel_rfl) (loads_of strct_int shp_zn) rfl
                · exact owe_load rfl (wants_if 5 142 rfl (by kernel_rfl) rfl) rfl (k := 0) rfl (by kernel_rfl) (loads_of strct_int shp_zx) rfl
                · exact owe_call1 rfl (wants_if 5 142 rfl (by kernel_rfl) rfl) rfl (opnd_op 7 144 (by kernel_rfl) rfl) (fresh_zn _) rfl (fun args w => by go_simp) (fun w u h1 => h_zabs (by omega) w u ((zx_zv' eA (Nat.le_refl _)) _ _ h1))
                · exact owe_call2 rfl (wants_if 5 142 rfl (by kernel_rfl) rfl) rfl (opnd_op 6 143 (by kernel_rfl) rfl) (opnd_op 8 145 (by kernel_rfl) rfl) (fresh_is _) rfl (fun args w => by go_simp) (fun w u v h1 h2 => h_zcmp (by omega) (by omega) w u v ((zn_zv dN) _ _ h1) ((zn_zv dABS) _ _ h2))
                · exact owe_bin rfl (wants_if 5 142 rfl (by kernel_rfl) rfl) rfl (opnd_op 9 146 (by kernel_rfl) rfl) (opnd_const _) rfl (fun ρ w h1 h2 => by exact run_gtr_int_t ρ _ _ _ w _ _ c2 h1 h2)
                · exact owe_pick rfl (wants_all rfl) rfl (opnd_op 5 142 (by kernel_rfl) rfl) (fun _ => (opnd_op 10 147 (by kernel_rfl) rfl)) (fun h => nomatch h) rfl
                · exact owe_move rfl (wants_all rfl) (Or.inl rfl) (opnd_op 11 148 (by kernel_rfl) rfl) rfl
                · exact owe_move rfl (wants_if 12 149 rfl (by kernel_rfl) rfl) (Or.inl rfl) (opnd_slot 3 15 rfl (by kernel_rfl)) rfl
                · exact owe_load rfl (wants_if 12 149 rfl (by kernel_rfl) rfl) rfl (k := 1) rfl (by kernel_rfl) (loads_of strct_int shp_zn) rfl
                · exact owe_load rfl (wants_if 12 149 rfl (by kernel_rfl) rfl) rfl (k := 0) rfl (by kernel_rfl) (loads_of strct_int shp_zx) rfl
                · exact owe_call1 rfl (wants_if 12 149 rfl (by kernel_rfl) rfl) rfl (opnd_op 15 152 (by kernel_rfl) rfl) (fresh_zn _) rfl (fun args w => by go_simp) (fun w u h1 => h_zabs (by omega) w u ((zx_zv' eA (Nat.le_refl _)) _ _ h1))
                · exact owe_call2 rfl (wants_if 12 149 rfl (by kernel_rfl) rfl) rfl (opnd_op 14 151 (by kernel_rfl) rfl) (opnd_op 16 153 (by kernel_rfl) rfl) (fresh_is _) rfl (fun args w => by go_simp) (fun w u v h1 h2 => g_eq w u v h1 (by rw [hUA]; exact h2))
                · exact owe_bin rfl (wants_if 12 149 rfl (by kernel_rfl) rfl) rfl (opnd_op 13 150 (by kernel_rfl) rfl) (opnd_op 17 154 (by kernel_rfl) rfl) rfl (fun ρ w h1 h2 => by rw [hI] at h1; exact run_eqb ρ _ _ _ w true h1 h2)
                · exact owe_pick rfl (wants_all rfl) rfl (opnd_op 12 149 (by kernel_rfl) rfl) (fun _ => (opnd_op 18 155 (by kernel_rfl) rfl)) (fun h => nomatch h) rfl
                · exact owe_move rfl (wants_all rfl) (Or.inr rfl) (opnd_op 19 156 (by kernel_rfl) rfl) rfl
              intro B13 a13 W13 S13
              replace S13 : Sta w 157 [(2, (.box 24 (Zx s p n c xs))), (16, (.box 24 ((ZN (sw ((tM A : Nat) : Int) ((tE A : Nat) : Int))) w.heap.size))), (18, (.box 24 ((ZN (sw (((tM A : Nat) : Int) + 1) ((tE A : Nat) : Int))) w.heap.size)))] [(4, (Is (.bool true))), (134, (Is (.bool false))), (13, (Is (.int .u64 (tM A : Nat)))), (14, (Is (.int .i64 (tE A : Nat))))] B13 a13 W13 := S13
              refine wp_ret ?_
              exact end_one S13 rfl (res_tmp S13 0 4 rfl)
            · skip
              refine wp_stmt_seq [.val ((ZN (sw ((tM A : Nat) : Int) ((tE A : Nat) : Int))) w.heap.size),
      .val (Zx s p n c xs),
      .val ((ZN (((A.natAbs : Nat) : Int))) w.heap.size),
      .val (Is (.int .i64 ((sw ((tM A : Nat) : Int) ((tE A : Nat) : Int)) - (((A.natAbs : Nat) : Int))).sign)),
      .val (Is (.bool true)),
      .val (Is (.bool true)),
      .val ((ZN (sw (((tM A : Nat) : Int) + 1) ((tE A : Nat) : Int))) w.heap.size),
      .val (Zx s p n c xs),
      .val ((ZN (((A.natAbs : Nat) : Int))) w.heap.size),
      .val (Is (.int .i64 ((sw (((tM A : Nat) : Int) + 1) ((tE A : Nat) : Int)) - (((A.natAbs : Nat) : Int))).sign)),
      .val (Is (.bool true)),
      .val (Is (.bool true)),
      .val (Is (.bool true)),
      .val (Is (.bool (tI A))),
      .val ((ZN (sw ((tM A : Nat) : Int) ((tE A : Nat) : Int))) w.heap.size),
      .val (Zx s p n c xs),
      .val ((ZN (((A.natAbs : Nat) : Int))) w.heap.size),
      .val (Is (.bool false)),
      .val (Is (.bool true)),
      .val (Is (.bool true)),
      .val (Is (.bool true))] [.inr 0, .inr 1, .inr 2] [.inl 20, .inr 0, .inr 1, .inr 2] follows S12 rfl (by kernel_rfl) ?_ ?_
              · refine ⟨⟨⟨⟨⟨⟨⟨⟨⟨⟨⟨⟨⟨⟨⟨⟨⟨⟨⟨⟨⟨trivial, ?_⟩, ?_⟩, ?_⟩, ?_⟩, ?_⟩, ?_⟩, ?_⟩, ?_⟩, ?_⟩, ?_⟩, ?_⟩, ?_⟩, ?_⟩, ?_⟩, ?_⟩, ?_⟩, ?_⟩, ?_⟩, ?_⟩, ?_⟩, ?_⟩
                · exact owe_load rfl (wants_all rfl) rfl (k := 1) rfl (by kernel_rfl) (loads_of strct_int shp_zn) rfl
                · exact owe_load rfl (wants_all rfl) rfl (k := 0) rfl (by kernel_rfl) (loads_of strct_int shp_zx) rfl
                · exact owe_call1 rfl (wants_all rfl) rfl (opnd_op 1 138 (by kernel_rfl) rfl) (fresh_zn _) rfl (fun args w => by go_simp) (fun w u h1 => h_zabs (by omega) w u ((zx_zv' eA (Nat.le_refl _)) _ _ h1))
                · exact owe_call2 rfl (wants_all rfl) rfl (opnd_op 0 137 (by kernel_rfl) rfl) (opnd_op 2 139 (by kernel_rfl) rfl) (fresh_is _) rfl (fun args w => by go_simp) (fun w u v h1 h2 => h_zcmp (by omega) (by omega) w u v ((zn_zv dU) _ _ h1) ((zn_zv dABS) _ _ h2))
                · exact owe_bin rfl (wants_all rfl) rfl (opnd_op 3 140 (by kernel_rfl) rfl) (opnd_const _) rfl (fun ρ w h1 h2 => by exact run_leq_int_t ρ _ _ _ w _ _ c1 h1 h2)
                · exact owe_move rfl (wants_all rfl) (Or.inl rfl) (opnd_op 4 141 (by kernel_rfl) rfl) rfl
                · exact owe_load rfl (wants_if 5 142 rfl (by kernel_rfl) rfl) rfl (k := 2) rfl (by kernel_rfl) (loads_of strct_int shp_zn) rfl
                · exact owe_load rfl (wants_if 5 142 rfl (by kernel_rfl) rfl) rfl (k := 0) rfl (by kernel_rfl) (loads_of strct_int shp_zx) rfl
                · exact owe_call1 rfl (wants_if 5 142 rfl (by kernel_rfl) rfl) rfl (opnd_op 7 144 (by kernel_rfl) rfl) (fresh_zn _) rfl (fun args w => by go_simp) (fun w u h1 => h_zabs (by omega) w u ((zx_zv' eA (Nat.le_refl _)) _ _ h1))
                · exact owe_call2 rfl (wants_if 5 142 rfl (by kernel_rfl) rfl) rfl (opnd_op 6 143 (by kernel_rfl) rfl) (opnd_op 8 145 (by kernel_rfl) rfl) (fresh_is _) rfl (fun args w => by go_simp) (fun w u v h1 h2 => h_zcmp (by omega) (by omega) w u v ((zn_zv dN) _ _ h1) ((zn_zv dABS) _ _ h2))
                · exact owe_bin rfl (wants_if 5 142 rfl (by kernel_rfl) rfl) rfl (opnd_op 9 146 (by kernel_rfl) rfl) (opnd_const _) rfl (fun ρ w h1 h2 => by exact run_gtr_int_t ρ _ _ _ w _ _ c2 h1 h2)
                · exact owe_pick rfl (wants_all rfl) rfl (opnd_op 5 142 (by kernel_rfl) rfl) (fun _ => (opnd_op 10 147 (by kernel_rfl) rfl)) (fun h => nomatch h) rfl
                · exact owe_move rfl (wants_all rfl) (Or.inl rfl) (opnd_op 11 148 (by kernel_rfl) rfl) rfl
                · exact owe_move rfl (wants_if 12 149 rfl (by kernel_rfl) rfl) (Or.inl rfl) (opnd_slot 3 15 rfl (by kernel_rfl)) rfl
                · exact owe_load rfl (wants_if 12 149 rfl (by kernel_rfl) rfl) rfl (k := 1) rfl (by kernel_rfl) (loads_of strct_int shp_zn) rfl
                · exact owe_load rfl (wants_if 12 149 rfl (by kernel_rfl) rfl) rfl (k := 0) rfl (by kernel_rfl) (loads_of strct_int shp_zx) rfl
                · exact owe_call1 rfl (wants_if 12 149 rfl (by kernel_rfl) rfl) rfl (opnd_op 15 152 (by kernel_rfl) rfl) (fresh_zn _) rfl (fun args w => by go_simp) (fun w u h1 => h_zabs (by omega) w u ((zx_zv' eA (Nat.le_refl _)) _ _ h1))
                · exact owe_call2 rfl (wants_if 12 149 rfl (by kernel_rfl) rfl) rfl (opnd_op 14 151 (by kernel_rfl) rfl) (opnd_op 16 153 (by kernel_rfl) rfl) (fresh_is _) rfl (fun args w => by go_simp) (g_neq (by omega) (by omega) hUA)
                · exact owe_bin rfl (wants_if 12 149 rfl (by kernel_rfl) rfl) rfl (opnd_op 13 150 (by kernel_rfl) rfl) (opnd_op 17 154 (by kernel_rfl) rfl) rfl (fun ρ w h1 h2 => by rw [hI] at h1; exact run_eqb ρ _ _ _ w false h1 h2)
                · exact owe_pick rfl (wants_all rfl) rfl (opnd_op 12 149 (by kernel_rfl) rfl) (fun _ => (opnd_op 18 155 (by kernel_rfl) rfl)) (fun h => nomatch h) rfl
                · exact owe_move rfl (wants_all rfl) (Or.inr rfl) (opnd_op 19 156 (by kernel_rfl) rfl) rfl
              intro B13 a13 W13 S13
              replace S13 : Sta w 157 [(2, (.box 24 (Zx s p n c xs))), (16, (.box 24 ((ZN (sw ((tM A : Nat) : Int) ((tE A : Nat) : Int))) w.heap.size))), (18, (.box 24 ((ZN (sw (((tM A : Nat) : Int) + 1) ((tE A : Nat) : Int))) w.heap.size)))] [(4, (Is (.bool true))), (134, (Is (.bool false))), (13, (Is (.int .u64 (tM A : Nat)))), (14, (Is (.int .i64 (tE A : Nat))))] B13 a13 W13 := S13
              refine wp_ret ?_
              exact end_one S13 rfl (res_tmp S13 0 4 rfl)
        · rcases Nat.eq_zero_or_pos (tE A) with he | he
          · skip
            refine wp_stmt_seq [.val (Is (.int .u64 (tM A : Nat))),
      .val (Is (.bool false)),
      .val (Is (.bool false)),
      .val (Is (.int .i64 (tE A : Nat))),
      .val (Is (.bool false)),
      .val (Is (.bool false)),
      .val (Is (.bool false)),
      .val (Is (.int .i64 (tE A : Nat))),
      .val (Is (.bool false)),
      .val (Is (.bool false)),
      .off,
      .off,
      .val (Is (.bool false)),
      .val (Is (.bool false))] [.inr 0] [.inl 13, .inr 0, .inr 1, .inr 2, .inr 3] follows S8 rfl (by kernel_rfl) ?_ ?_
            · refine ⟨⟨⟨⟨⟨⟨⟨⟨⟨⟨⟨⟨⟨⟨trivial, ?_⟩, ?_⟩, ?_⟩, ?_⟩, ?_⟩, ?_⟩, ?_⟩, ?_⟩, ?_⟩, ?_⟩, ?_⟩, ?_⟩, ?_⟩, ?_⟩
              · exact owe_move rfl (wants_all rfl) (Or.inl rfl) (opnd_slot 0 13 rfl (by kernel_rfl)) rfl
              · exact owe_bin rfl (wants_all rfl) rfl (opnd_op 0 102 (by kernel_rfl) rfl) (opnd_const _) rfl (fun ρ w h1 h2 => by exact run_geq_u64_f ρ _ _ _ w _ _ (by omega) h1 h2)
              · exact owe_move rfl (wants_all rfl) (Or.inl rfl) (opnd_op 1 103 (by kernel_rfl) rfl) rfl
              · exact owe_move rfl (wants_if 2 104 rfl (by kernel_rfl) rfl) (Or.inl rfl) (opnd_slot 1 14 rfl (by kernel_rfl)) rfl
              · exact owe_bin rfl (wants_if 2 104 rfl (by kernel_rfl) rfl) rfl (opnd_op 3 105 (by kernel_rfl) rfl) (opnd_const _) rfl (fun ρ w h1 h2 => by exact run_lss_int_f ρ _ _ _ w _ _ (by omega) h1 h2)
              · exact owe_pick rfl (wants_all rfl) rfl (opnd_op 2 104 (by kernel_rfl) rfl) (fun h => nomatch h) (fun _ => (opnd_op 4 106 (by kernel_rfl) rfl)) rfl
              · exact owe_move rfl (wants_all rfl) (Or.inl rfl) (opnd_op 5 107 (by kernel_rfl) rfl) rfl
              · exact owe_move rfl (wants_if 6 108 rfl (by kernel_rfl) rfl) (Or.inl rfl) (opnd_slot 1 14 rfl (by kernel_rfl)) rfl
              · exact owe_bin rfl (wants_if 6 108 rfl (by kernel_rfl) rfl) rfl (opnd_op 7 109 (by kernel_rfl) rfl) (opnd_const _) rfl (fun ρ w h1 h2 => by exact run_gtr_int_f ρ _ _ _ w _ _ (by omega) h1 h2)
              · exact owe_move rfl (wants_if 6 108 rfl (by kernel_rfl) rfl) (Or.inl rfl) (opnd_op 8 110 (by kernel_rfl) rfl) rfl
              · exact owe_off 9 111 rfl rfl rfl (by kernel_rfl) rfl (by decide)
              · exact owe_off 9 111 rfl rfl rfl (by kernel_rfl) rfl (by decide)
              · exact owe_pick rfl (wants_if 6 108 rfl (by kernel_rfl) rfl) rfl (opnd_op 9 111 (by kernel_rfl) rfl) (fun h => nomatch h) (fun _ => (opnd_const _)) rfl
              · exact owe_pick rfl (wants_all rfl) rfl (opnd_op 6 108 (by kernel_rfl) rfl) (fun h => nomatch h) (fun _ => (opnd_op 12 114 (by kernel_rfl) rfl)) rfl
            intro B9 a9 W9 S9
            replace S9 : Sta w 157 [(2, (.box 24 (Zx s p n c xs)))] [(115, (Is (.bool false))), (13, (Is (.int .u64 (tM A : Nat)))), (14, (Is (.int .i64 (tE A : Nat)))), (15, (Is (.bool (tI A)))), (0, TB)] B9 a9 W9 := S9
            refine wp_cond_false (S9.bool 0 115 rfl) ?_
            refine wp_skip ?_
            refine thenN ?_
            exact ⟨B9, S9.sub [0] [1, 2, 3]⟩
          · skip
            have h52 := top_52 he
            refine wp_stmt_seq [.val (Is (.int .u64 (tM A : Nat))),
      .val (Is (.bool false)),
      .val (Is (.bool false)),
      .val (Is (.int .i64 (tE A : Nat))),
      .val (Is (.bool false)),
      .val (Is (.bool false)),
      .val (Is (.bool false)),
      .val (Is (.int .i64 (tE A : Nat))),
      .val (Is (.bool true)),
      .val (Is (.bool true)),
      .val (Is (.int .u64 (tM A : Nat))),
      .val (Is (.bool false)),
      .val (Is (.bool false)),
      .val (Is (.bool false))] [.inr 0] [.inl 13, .inr 0, .inr 1, .inr 2, .inr 3] follows S8 rfl (by kernel_rfl) ?_ ?_
            · refine ⟨⟨⟨⟨⟨⟨⟨⟨⟨⟨⟨⟨⟨⟨trivial, ?_⟩, ?_⟩, ?_⟩, ?_⟩, ?_⟩, ?_⟩, ?_⟩, ?_⟩, ?_⟩, ?_⟩, ?_⟩, ?_⟩, ?_⟩, ?_⟩
              · exact owe_move rfl (wants_all rfl) (Or.inl rfl) (opnd_slot 0 13 rfl (by kernel_rfl)) rfl
              · exact owe_bin rfl (wants_all rfl) rfl (opnd_op 0 102 (by kernel_rfl) rfl) (opnd_const _) rfl (fun ρ w h1 h2 => by exact run_geq_u64_f ρ _ _ _ w _ _ (by omega) h1 h2)
              · exact owe_move rfl (wants_all rfl) (Or.inl rfl) (opnd_op 1 103 (by kernel_rfl) rfl) rfl
              · exact owe_move rfl (wants_if 2 104 rfl (by kernel_rfl) rfl) (Or.inl rfl) (opnd_slot 1 14 rfl (by kernel_rfl)) rfl
              · exact owe_bin rfl (wants_if 2 104 rfl (by kernel_rfl) rfl) rfl (opnd_op 3 105 (by kernel_rfl) rfl) (opnd_const _) rfl (fun ρ w h1 h2 => by exact run_lss_int_f ρ _ _ _ w _ _ (by omega) h1 h2)
              · exact owe_pick rfl (wants_all rfl) rfl (opnd_op 2 104 (by kernel_rfl) rfl) (fun h => nomatch h) (fun _ => (opnd_op 4 106 (by kernel_rfl) rfl)) rfl
              · exact owe_move rfl (wants_all rfl) (Or.inl rfl) (opnd_op 5 107 (by kernel_rfl) rfl) rfl
              · exact owe_move rfl (wants_if 6 108 rfl (by kernel_rfl) rfl) (Or.inl rfl) (opnd_slot 1 14 rfl (by kernel_rfl)) rfl
              · exact owe_bin rfl (wants_if 6 108 rfl (by kernel_rfl) rfl) rfl (opnd_op 7 109 (by kernel_rfl) rfl) (opnd_const _) rfl (fun ρ w h1 h2 => by exact run_gtr_int_t ρ _ _ _ w _ _ (by omega) h1 h2)
              · exact owe_move rfl (wants_if 6 108 rfl (by kernel_rfl) rfl) (Or.inl rfl) (opnd_op 8 110 (by kernel_rfl) rfl) rfl
              · exact owe_move rfl (wants_if 9 111 rfl (by kernel_rfl) rfl) (Or.inl rfl) (opnd_slot 0 13 rfl (by kernel_rfl)) rfl
              · exact owe_bin rfl (wants_if 9 111 rfl (by kernel_rfl) rfl) rfl (opnd_op 10 112 (by kernel_rfl) rfl) (opnd_const _) rfl (fun ρ w h1 h2 => by exact run_lss_u64_f ρ _ _ _ w _ _ (by omega) h1 h2)
              · exact owe_pick rfl (wants_if 6 108 rfl (by kernel_rfl) rfl) rfl (opnd_op 9 111 (by kernel_rfl) rfl) (fun _ => (opnd_op 11 113 (by kernel_rfl) rfl)) (fun h => nomatch h) rfl
              · exact owe_pick rfl (wants_all rfl) rfl (opnd_op 6 108 (by kernel_rfl) rfl) (fun h => nomatch h) (fun _ => (opnd_op 12 114 (by kernel_rfl) rfl)) rfl
            intro B9 a9 W9 S9
            replace S9 : Sta w 157 [(2, (.box 24 (Zx s p n c xs)))] [(115, (Is (.bool false))), (13, (Is (.int .u64 (tM A : Nat)))), (14, (Is (.int .i64 (tE A : Nat)))), (15, (Is (.bool (tI A)))), (0, TB)] B9 a9 W9 := S9
            refine wp_cond_false (S9.bool 0 115 rfl) ?_
            refine wp_skip ?_
            refine thenN ?_
            exact ⟨B9, S9.sub [0] [1, 2, 3]⟩
      · by_cases hA0 : 0 ≤ A
        · skip
          obtain ⟨f1, f2, f3, f4⟩ := root_facts hA0
          have f5 := sign_ge hA0
          refine wp_seq ?_
          refine wp_stmt_seq [.val (Is (.int .i64 (rtE (A)))),
      .val (Is (.bool true)),
      .val (Zx s p n c xs),
      .val (Is (.int .i64 (A).sign)),
      .val (Is (.bool true)),
      .val (Is (.bool false))] [.inr 0, .inr 1, .inr 2] [.inl 5, .inr 0, .inr 1, .inr 2, .inr 3, .inr 4] follows S6 rfl (by kernel_rfl) ?_ ?_
          · refine ⟨⟨⟨⟨⟨⟨trivial, ?_⟩, ?_⟩, ?_⟩, ?_⟩, ?_⟩, ?_⟩
            · exact owe_move rfl (wants_all rfl) (Or.inl rfl) (opnd_slot 0 10 rfl (by kernel_rfl)) rfl
            · exact owe_bin rfl (wants_all rfl) rfl (opnd_op 0 64 (by kernel_rfl) rfl) (opnd_const _) rfl (fun ρ w h1 h2 => by exact run_eql_errno_t ρ _ _ _ w _ _ f1 h1 h2)
            · exact owe_load rfl (wants_all rfl) rfl (k := 0) rfl (by kernel_rfl) (loads_of strct_int shp_zx) rfl
            · exact owe_call1 rfl (wants_all rfl) rfl (opnd_op 2 66 (by kernel_rfl) rfl) (fresh_is _) rfl (fun args w => by go_simp) (fun w u h1 => h_zsign (by omega) w u ((zx_zv' eA (Nat.le_refl _)) _ _ h1))
            · exact owe_bin rfl (wants_all rfl) rfl (opnd_op 3 67 (by kernel_rfl) rfl) (opnd_const _) rfl (fun ρ w h1 h2 => by exact run_geq_int_t ρ _ _ _ w _ _ f5 h1 h2)
            · exact owe_bin rfl (wants_all rfl) rfl (opnd_op 1 65 (by kernel_rfl) rfl) (opnd_op 4 68 (by kernel_rfl) rfl) rfl (fun ρ w h1 h2 => by rw [run_neq_bool ρ _ _ _ w _ _ h1 h2]; rfl)
          intro B7 a7 W7 S7
          replace S7 : Sta w 157 [(2, (.box 24 (Zx s p n c xs))), (8, (.box 24 ((ZN (Z)) w.heap.size))), (11, (.box 24 ((ZN (rtV (A))) w.heap.size)))] [(69, (Is (.bool false))), (10, (Is (.int .i64 (rtE (A))))), (58, (Is (.bool false))), (1, (Is (str l))), (1000001, TT), (0, TB)] B7 a7 W7 := S7
          refine wp_cond_false (S7.bool 0 69 rfl) ?_
          refine wp_skip ?_
          refine thenN ?_
          refine wp_stmt_seq [.val ((ZN (rtV (A))) w.heap.size),
      .val ((ZN (1)) w.heap.size),
      .val ((ZN ((rtV (A)) + 1)) w.heap.size),
      .new (.box 24 (Is (.agg #[.bool false, .slice none 0 0]))),
      .put (.inr 3) (.box 24 ((ZN ((rtV (A)) + 1)) w.heap.size))] [.inr 0, .inr 1, .inr 2, .inl 3] [.inr 0, .inr 1, .inr 2, .inr 3, .inr 4, .inr 5] follows S7 rfl (by kernel_rfl) ?_ ?_
          · refine ⟨⟨⟨⟨⟨trivial, ?_⟩, ?_⟩, ?_⟩, ?_⟩, ?_⟩
            · exact owe_load rfl (wants_all rfl) rfl (k := 2) rfl (by kernel_rfl) (loads_of strct_int shp_zn) rfl
            · exact owe_call1 rfl (wants_all rfl) rfl (opnd_const _) (fresh_zn _) rfl (fun args w => by go_simp) (g_zof (1) (by omega) (by omega))
            · exact owe_call2 rfl (wants_all rfl) rfl (opnd_op 0 70 (by kernel_rfl) rfl) (opnd_op 1 71 (by kernel_rfl) rfl) (fresh_zn _) rfl (fun args w => by go_simp) (fun w u v h1 h2 => g_zadd (by omega) (by omega) w u v ((zn_zv dR) _ _ h1) ((zn_zv d1) _ _ h2))
            · exact owe_new rfl (wants_all rfl) rfl rfl (fun ρ w => alloc_int ρ _ w)
            · exact owe_put 3 rfl (wants_all rfl) rfl (by kernel_rfl) rfl (opnd_op 2 72 (by kernel_rfl) rfl) (stores_of strct_int shp_z0 shp_zn) rfl
          intro B8 a8 W8 S8
          replace S8 : Sta w 157 [(2, (.box 24 (Zx s p n c xs))), (8, (.box 24 ((ZN (Z)) w.heap.size))), (11, (.box 24 ((ZN (rtV (A))) w.heap.size))), (12, (.box 24 ((ZN ((rtV (A)) + 1)) w.heap.size)))] [(69, (Is (.bool false))), (10, (Is (.int .i64 (rtE (A))))), (58, (Is (.bool false))), (1, (Is (str l))), (1000001, TT), (0, TB)] B8 a8 W8 := S8
          refine wp_seq_join _ tail6 ?_
          refine wp_stmt_seq [.val (Is (.int .i64 (rtE (A)))),
      .val (Is (.bool true)),
      .val (Is (.bool true)),
      .val ((ZN (rtV (A))) w.heap.size),
      .val (Is (.int .i64 (rtV (A)).sign)),
      .val (Is (.bool false)),
      .val (Is (.bool false)),
      .val ((ZN (rtV (A))) w.heap.size),
      .val ((ZN (rtV (A))) w.heap.size),
      .val ((ZN ((rtV (A)) * (rtV (A)))) w.heap.size),
      .val (Zx s p n c xs),
      .val (Is (.int .i64 (((rtV (A)) * (rtV (A))) - A).sign)),
      .val (Is (.bool false)),
      .val (Is (.bool false)),
      .val (Is (.bool false)),
      .val ((ZN ((rtV (A)) + 1)) w.heap.size),
      .val ((ZN ((rtV (A)) + 1)) w.heap.size),
      .val ((ZN (((rtV (A)) + 1) * ((rtV (A)) + 1))) w.heap.size),
      .val (Zx s p n c xs),
      .val (Is (.int .i64 ((((rtV (A)) + 1) * ((rtV (A)) + 1)) - A).sign)),
      .val (Is (.bool false)),
      .val (Is (.bool false)),
      .val (Is (.bool false))] [.inr 0, .inr 1, .inr 2, .inr 3] [.inl 22, .inr 0, .inr 1, .inr 2, .inr 3, .inr 4, .inr 5] follows S8 rfl (by kernel_rfl) ?_ ?_
          · refine ⟨⟨⟨⟨⟨⟨⟨⟨⟨⟨⟨⟨⟨⟨⟨⟨⟨⟨⟨⟨⟨⟨⟨trivial, ?_⟩, ?_⟩, ?_⟩, ?_⟩, ?_⟩, ?_⟩, ?_⟩, ?_⟩, ?_⟩, ?_⟩, ?_⟩, ?_⟩, ?_⟩, ?_⟩, ?_⟩, ?_⟩, ?_⟩, ?_⟩, ?_⟩, ?_⟩, ?_⟩, ?_⟩, ?_⟩
            · exact owe_move rfl (wants_all rfl) (Or.inl rfl) (opnd_slot 1 10 rfl (by kernel_rfl)) rfl
            · exact owe_bin rfl (wants_all rfl) rfl (opnd_op 0 73 (by kernel_rfl) rfl) (opnd_const _) rfl (fun ρ w h1 h2 => by exact run_eql_errno_t ρ _ _ _ w _ _ f1 h1 h2)
            · exact owe_move rfl (wants_all rfl) (Or.inl rfl) (opnd_op 1 74 (by kernel_rfl) rfl) rfl
            · exact owe_load rfl (wants_if 2 75 rfl (by kernel_rfl) rfl) rfl (k := 2) rfl (by kernel_rfl) (loads_of strct_int shp_zn) rfl
            · exact owe_call1 rfl (wants_if 2 75 rfl (by kernel_rfl) rfl) rfl (opnd_op 3 76 (by kernel_rfl) rfl) (fresh_is _) rfl (fun args w => by go_simp) (fun w u h1 => h_zsign (by omega) w u ((zn_zv dR) _ _ h1))
            · exact owe_bin rfl (wants_if 2 75 rfl (by kernel_rfl) rfl) rfl (opnd_op 4 77 (by kernel_rfl) rfl) (opnd_const _) rfl (fun ρ w h1 h2 => by exact run_lss_int_f ρ _ _ _ w _ _ f2 h1 h2)
            · exact owe_move rfl (wants_if 2 75 rfl (by kernel_rfl) rfl) (Or.inl rfl) (opnd_op 5 78 (by kernel_rfl) rfl) rfl
            · exact owe_load rfl (wants_if 6 79 rfl (by kernel_rfl) rfl) rfl (k := 2) rfl (by kernel_rfl) (loads_of strct_int shp_zn) rfl
            · exact owe_load rfl (wants_if 6 79 rfl (by kernel_rfl) rfl) rfl (k := 2) rfl (by kernel_rfl) (loads_of strct_int shp_zn) rfl
            · exact owe_call2 rfl (wants_if 6 79 rfl (by kernel_rfl) rfl) rfl (opnd_op 7 80 (by kernel_rfl) rfl) (opnd_op 8 81 (by kernel_rfl) rfl) (fresh_zn _) rfl (fun args w => by go_simp) (fun w u v h1 h2 => g_zmul (by omega) w u v ((zn_zv dR) _ _ h1) ((zn_zv dR) _ _ h2))
            · exact owe_load rfl (wants_if 6 79 rfl (by kernel_rfl) rfl) rfl (k := 0) rfl (by kernel_rfl) (loads_of strct_int shp_zx) rfl
            · exact owe_call2 rfl (wants_if 6 79 rfl (by kernel_rfl) rfl) rfl (opnd_op 9 82 (by kernel_rfl) rfl) (opnd_op 10 83 (by kernel_rfl) rfl) (fresh_is _) rfl (fun args w => by go_simp) (fun w u v h1 h2 => h_zcmp (by omega) (by omega) w u v ((zn_zv (dl_mul dR dR)) _ _ h1) ((zx_zv' eA (Nat.le_refl _)) _ _ h2))
            · exact owe_bin rfl (wants_if 6 79 rfl (by kernel_rfl) rfl) rfl (opnd_op 11 84 (by kernel_rfl) rfl) (opnd_const _) rfl (fun ρ w h1 h2 => by exact run_gtr_int_f ρ _ _ _ w _ _ f3 h1 h2)
            · exact owe_pick rfl (wants_if 2 75 rfl (by kernel_rfl) rfl) rfl (opnd_op 6 79 (by kernel_rfl) rfl) (fun h => nomatch h) (fun _ => (opnd_op 12 85 (by kernel_rfl) rfl)) rfl
            · exact owe_move rfl (wants_if 2 75 rfl (by kernel_rfl) rfl) (Or.inl rfl) (opnd_op 13 86 (by kernel_rfl) rfl) rfl
            · exact owe_load rfl (wants_if 14 87 rfl (by kernel_rfl) rfl) rfl (k := 3) rfl (by kernel_rfl) (loads_of strct_int shp_zn) rfl
            · exact owe_load rfl (wants_if 14 87 rfl (by kernel_rfl) rfl) rfl (k := 3) rfl (by kernel_rfl) (loads_of strct_int shp_zn) rfl
            · exact owe_call2 rfl (wants_if 14 87 rfl (by kernel_rfl) rfl) rfl (opnd_op 15 88 (by kernel_rfl) rfl) (opnd_op 16 89 (by kernel_rfl) rfl) (fresh_zn _) rfl (fun args w => by go_simp) (fun w u v h1 h2 => g_zmul (by omega) w u v ((zn_zv dR1) _ _ h1) ((zn_zv dR1) _ _ h2))
            · exact owe_load rfl (wants_if 14 87 rfl (by kernel_rfl) rfl) rfl (k := 0) rfl (by kernel_rfl) (loads_of strct_int shp_zx) rfl
            · exact owe_call2 rfl (wants_if 14 87 rfl (by kernel_rfl) rfl) rfl (opnd_op 17 90 (by kernel_rfl) rfl) (opnd_op 18 91 (by kernel_rfl) rfl) (fresh_is _) rfl (fun args w => by go_simp) (fun w u v h1 h2 => h_zcmp (by omega) (by omega) w u v ((zn_zv (dl_mul dR1 dR1)) _ _ h1) ((zx_zv' eA (Nat.le_refl _)) _ _ h2))
            · exact owe_bin rfl (wants_if 14 87 rfl (by kernel_rfl) rfl) rfl (opnd_op 19 92 (by kernel_rfl) rfl) (opnd_const _) rfl (fun ρ w h1 h2 => by exact run_leq_int_f ρ _ _ _ w _ _ f4 h1 h2)
            · exact owe_pick rfl (wants_if 2 75 rfl (by kernel_rfl) rfl) rfl (opnd_op 14 87 (by kernel_rfl) rfl) (fun h => nomatch h) (fun _ => (opnd_op 20 93 (by kernel_rfl) rfl)) rfl
            · exact owe_pick rfl (wants_all rfl) rfl (opnd_op 2 75 (by kernel_rfl) rfl) (fun _ => (opnd_op 21 94 (by kernel_rfl) rfl)) (fun h => nomatch h) rfl
          intro B9 a9 W9 S9
          replace S9 : Sta w 157 [(2, (.box 24 (Zx s p n c xs))), (8, (.box 24 ((ZN (Z)) w.heap.size))), (11, (.box 24 ((ZN (rtV (A))) w.heap.size))), (12, (.box 24 ((ZN ((rtV (A)) + 1)) w.heap.size)))] [(95, (Is (.bool false))), (69, (Is (.bool false))), (10, (Is (.int .i64 (rtE (A))))), (58, (Is (.bool false))), (1, (Is (str l))), (1000001, TT), (0, TB)] B9 a9 W9 := S9
          refine wp_cond_false (S9.bool 0 95 rfl) ?_
          refine wp_skip ?_
          refine thenN ?_
          exact ⟨B9, S9.sub [0] [6]⟩
        · skip
          obtain ⟨f1, f2⟩ := root_neg (A := A) (by omega)
          refine wp_seq ?_
          refine wp_stmt_seq [.val (Is (.int .i64 (rtE (A)))),
      .val (Is (.bool false)),
      .val (Zx s p n c xs),
      .val (Is (.int .i64 (A).sign)),
      .val (Is (.bool false)),
      .val (Is (.bool false))] [.inr 0, .inr 1, .inr 2] [.inl 5, .inr 0, .inr 1, .inr 2, .inr 3, .inr 4] follows S6 rfl (by kernel_rfl) ?_ ?_
          · refine ⟨⟨⟨⟨⟨⟨trivial, ?_⟩, ?_⟩, ?_⟩, ?_⟩, ?_⟩, ?_⟩
            · exact owe_move rfl (wants_all rfl) (Or.inl rfl) (opnd_slot 0 10 rfl (by kernel_rfl)) rfl
            · exact owe_bin rfl (wants_all rfl) rfl (opnd_op 0 64 (by kernel_rfl) rfl) (opnd_const _) rfl (fun ρ w h1 h2 => by exact run_eql_errno_f ρ _ _ _ w _ _ f1 h1 h2)
            · exact owe_load rfl (wants_all rfl) rfl (k := 0) rfl (by kernel_rfl) (loads_of strct_int shp_zx) rfl
            · exact owe_call1 rfl (wants_all rfl) rfl (opnd_op 2 66 (by kernel_rfl) rfl) (fresh_is _) rfl (fun args w => by go_simp) (fun w u h1 => h_zsign (by omega) w u ((zx_zv' eA (Nat.le_refl _)) _ _ h1))
            · exact owe_bin rfl (wants_all rfl) rfl (opnd_op 3 67 (by kernel_rfl) rfl) (opnd_const _) rfl (fun ρ w h1 h2 => by exact run_geq_int_f ρ _ _ _ w _ _ f2 h1 h2)
            · exact owe_bin rfl (wants_all rfl) rfl (opnd_op 1 65 (by kernel_rfl) rfl) (opnd_op 4 68 (by kernel_rfl) rfl) rfl (fun ρ w h1 h2 => by rw [run_neq_bool ρ _ _ _ w _ _ h1 h2]; rfl)
          intro B7 a7 W7 S7
          replace S7 : Sta w 157 [(2, (.box 24 (Zx s p n c xs))), (8, (.box 24 ((ZN (Z)) w.heap.size))), (11, (.box 24 ((ZN (rtV (A))) w.heap.size)))] [(69, (Is (.bool false))), (10, (Is (.int .i64 (rtE (A))))), (58, (Is (.bool false))), (1, (Is (str l))), (1000001, TT), (0, TB)] B7 a7 W7 := S7
          refine wp_cond_false (S7.bool 0 69 rfl) ?_
          refine wp_skip ?_
          refine thenN ?_
          refine wp_stmt_seq [.val ((ZN (rtV (A))) w.heap.size),
      .val ((ZN (1)) w.heap.size),
      .val ((ZN ((rtV (A)) + 1)) w.heap.size),
      .new (.box 24 (Is (.agg #[.bool false, .slice none 0 0]))),
      .put (.inr 3) (.box 24 ((ZN ((rtV (A)) + 1)) w.heap.size))] [.inr 0, .inr 1, .inr 2, .inl 3] [.inr 0, .inr 1, .inr 2, .inr 3, .inr 4, .inr 5] follows S7 rfl (by kernel_rfl) ?_ ?_
          · refine ⟨⟨⟨⟨⟨trivial, ?_⟩, ?_⟩, ?_⟩, ?_⟩, ?_⟩
            · exact owe_load rfl (wants_all rfl) rfl (k := 2) rfl (by kernel_rfl) (loads_of strct_int shp_zn) rfl
            · exact owe_call1 rfl (wants_all rfl) rfl (opnd_const _) (fresh_zn _) rfl (fun args w => by go_simp) (g_zof (1) (by omega) (by omega))
            · exact owe_call2 rfl (wants_all rfl) rfl (opnd_op 0 70 (by kernel_rfl) rfl) (opnd_op 1 71 (by kernel_rfl) rfl) (fresh_zn _) rfl (fun args w => by go_simp) (fun w u v h1 h2 => g_zadd (by omega) (by omega) w u v ((zn_zv dR) _ _ h1) ((zn_zv d1) _ _ h2))
            · exact owe_new rfl (wants_all rfl) rfl rfl (fun ρ w => alloc_int ρ _ w)
            · exact owe_put 3 rfl (wants_all rfl) rfl (by kernel_rfl) rfl (opnd_op 2 72 (by kernel_rfl) rfl) (stores_of strct_int shp_z0 shp_zn) rfl
          intro B8 a8 W8 S8
          replace S8 : Sta w 157 [(2, (.box 24 (Zx s p n c xs))), (8, (.box 24 ((ZN (Z)) w.heap.size))), (11, (.box 24 ((ZN (rtV (A))) w.heap.size))), (12, (.box 24 ((ZN ((rtV (A)) + 1)) w.heap.size)))] [(69, (Is (.bool false))), (10, (Is (.int .i64 (rtE (A))))), (58, (Is (.bool false))), (1, (Is (str l))), (1000001, TT), (0, TB)] B8 a8 W8 := S8
          refine wp_seq_join _ tail6 ?_
          refine wp_stmt_seq [.val (Is (.int .i64 (rtE (A)))),
      .val (Is (.bool false)),
      .val (Is (.bool false)),
      .off,
      .off,
      .off,
      .val (Is (undef)),
      .off,
      .off,
      .off,
      .off,
      .off,
      .off,
      .off,
      .val (Is (undef)),
      .off,
      .off,
      .off,
      .off,
      .off,
      .off,
      .off,
      .val (Is (.bool false))] [.inr 0, .inr 1, .inr 2, .inr 3] [.inl 22, .inr 0, .inr 1, .inr 2, .inr 3, .inr 4, .inr 5] follows S8 rfl (by kernel_rfl) ?_ ?_
          · refine ⟨⟨⟨⟨⟨⟨⟨⟨⟨⟨⟨⟨⟨⟨⟨⟨⟨⟨⟨⟨⟨⟨⟨trivial, ?_⟩, ?_⟩, ?_⟩, ?_⟩, ?_⟩, ?_⟩, ?_⟩, ?_⟩, ?_⟩, ?_⟩, ?_⟩, ?_⟩, ?_⟩, ?_⟩, ?_⟩, ?_⟩, ?_⟩, ?_⟩, ?_⟩, ?_⟩, ?_⟩, ?_⟩, ?_⟩
            · exact owe_move rfl (wants_all rfl) (Or.inl rfl) (opnd_slot 1 10 rfl (by kernel_rfl)) rfl
            · exact owe_bin rfl (wants_all rfl) rfl (opnd_op 0 73 (by kernel_rfl) rfl) (opnd_const _) rfl (fun ρ w h1 h2 => by exact run_eql_errno_f ρ _ _ _ w _ _ f1 h1 h2)
            · exact owe_move rfl (wants_all rfl) (Or.inl rfl) (opnd_op 1 74 (by kernel_rfl) rfl) rfl
            · exact owe_off 2 75 rfl rfl rfl (by kernel_rfl) rfl (by decide)
            · exact owe_off 2 75 rfl rfl rfl (by kernel_rfl) rfl (by decide)
            · exact owe_off 2 75 rfl rfl rfl (by kernel_rfl) rfl (by decide)
            · exact owe_offv 2 75 rfl rfl rfl (by kernel_rfl) rfl (by decide)
            · exact owe_offu 6 79 rfl rfl rfl (by kernel_rfl) rfl
            · exact owe_offu 6 79 rfl rfl rfl (by kernel_rfl) rfl
            · exact owe_offu 6 79 rfl rfl rfl (by kernel_rfl) rfl
            · exact owe_offu 6 79 rfl rfl rfl (by kernel_rfl) rfl
            · exact owe_offu 6 79 rfl rfl rfl (by kernel_rfl) rfl
            · exact owe_offu 6 79 rfl rfl rfl (by kernel_rfl) rfl
            · exact owe_off 2 75 rfl rfl rfl (by kernel_rfl) rfl (by decide)
            · exact owe_offv 2 75 rfl rfl rfl (by kernel_rfl) rfl (by decide)
            · exact owe_offu 14 87 rfl rfl rfl (by kernel_rfl) rfl
            · exact owe_offu 14 87 rfl rfl rfl (by kernel_rfl) rfl
            · exact owe_offu 14 87 rfl rfl rfl (by kernel_rfl) rfl
            · exact owe_offu 14 87 rfl rfl rfl (by kernel_rfl) rfl
            · exact owe_offu 14 87 rfl rfl rfl (by kernel_rfl) rfl
            · exact owe_offu 14 87 rfl rfl rfl (by kernel_rfl) rfl
            · exact owe_off 2 75 rfl rfl rfl (by kernel_rfl) rfl (by decide)
            · exact owe_pick rfl (wants_all rfl) rfl (opnd_op 2 75 (by kernel_rfl) rfl) (fun h => nomatch h) (fun _ => (opnd_const _)) rfl
          intro B9 a9 W9 S9
          replace S9 : Sta w 157 [(2, (.box 24 (Zx s p n c xs))), (8, (.box 24 ((ZN (Z)) w.heap.size))), (11, (.box 24 ((ZN (rtV (A))) w.heap.size))), (12, (.box 24 ((ZN ((rtV (A)) + 1)) w.heap.size)))] [(95, (Is (.bool false))), (69, (Is (.bool false))), (10, (Is (.int .i64 (rtE (A))))), (58, (Is (.bool false))), (1, (Is (str l))), (1000001, TT), (0, TB)] B9 a9 W9 := S9
          refine wp_cond_false (S9.bool 0 95 rfl) ?_
          refine wp_skip ?_
          refine thenN ?_
          exact ⟨B9, S9.sub [0] [6]⟩
    · skip
      refine wp_seq ?_
      refine wp_stmt_seq [.val (Is (.int .i64 E0)),
      .val (Is (.bool false)),
      .val (Is (.bool false)),
      .off,
      .off,
      .off,
      .off,
      .val (Is (.bool false))] [.inr 0, .inr 1] [.inl 7, .inr 0, .inr 1, .inr 2, .inr 3] follows S4 rfl (by kernel_rfl) ?_ ?_
      · refine ⟨⟨⟨⟨⟨⟨⟨⟨trivial, ?_⟩, ?_⟩, ?_⟩, ?_⟩, ?_⟩, ?_⟩, ?_⟩, ?_⟩
        · exact owe_move rfl (wants_all rfl) (Or.inl rfl) (opnd_slot 0 10 rfl (by kernel_rfl)) rfl
        · exact owe_bin rfl (wants_all rfl) rfl (opnd_op 0 51 (by kernel_rfl) rfl) (opnd_const _) rfl (fun ρ w h1 h2 => by exact run_eql_errno_f ρ _ _ _ w _ _ hE0 h1 h2)
        · exact owe_move rfl (wants_all rfl) (Or.inl rfl) (opnd_op 1 52 (by kernel_rfl) rfl) rfl
        · exact owe_off 2 53 rfl rfl rfl (by kernel_rfl) rfl (by decide)
        · exact owe_off 2 53 rfl rfl rfl (by kernel_rfl) rfl (by decide)
        · exact owe_off 2 53 rfl rfl rfl (by kernel_rfl) rfl (by decide)
        · exact owe_off 2 53 rfl rfl rfl (by kernel_rfl) rfl (by decide)
        · exact owe_pick rfl (wants_all rfl) rfl (opnd_op 2 53 (by kernel_rfl) rfl) (fun h => nomatch h) (fun _ => (opnd_const _)) rfl
      intro B5 a5 W5 S5
      replace S5 : Sta w 157 [(2, (.box 24 (Zx s p n c xs))), (8, (.box 24 ((ZN (Z)) w.heap.size)))] [(58, (Is (.bool false))), (10, (Is (.int .i64 E0))), (1, (Is (str l))), (1000001, TT), (0, TB)] B5 a5 W5 := S5
      refine wp_cond_false (S5.bool 0 58 rfl) ?_
      refine wp_skip ?_
      refine thenN ?_
      refine wp_stmt_seq [.val (Zx s p n c xs),
      .val ((TWO (ZN (rtV (A))) (IS (.int .i64 (rtE (A))))) w.heap.size),
      .val ((TWO (ZN (rtV (A))) (IS (.int .i64 (rtE (A))))) w.heap.size),
      .val ((ZN (rtV (A))) w.heap.size),
      .val (Is (.int .i64 (rtE (A)))),
      .new (.box 24 (Is (.agg #[.bool false, .slice none 0 0]))),
      .put (.inr 5) (.box 24 ((ZN (rtV (A))) w.heap.size)),
      .val (Is (.int .i64 (rtE (A))))] [.inr 0, .inr 1, .inl 5] [.inl 7, .inr 0, .inr 2, .inr 3, .inr 4] follows S5 rfl (by kernel_rfl) ?_ ?_
      · refine ⟨⟨⟨⟨⟨⟨⟨⟨trivial, ?_⟩, ?_⟩, ?_⟩, ?_⟩, ?_⟩, ?_⟩, ?_⟩, ?_⟩
        · exact owe_load rfl (wants_all rfl) rfl (k := 0) rfl (by kernel_rfl) (loads_of strct_int shp_zx) rfl
        · exact owe_call1 rfl (wants_all rfl) rfl (opnd_op 0 60 (by kernel_rfl) rfl) (fresh_two (fresh_zn _) (fresh_is _)) rfl (fun args w => by go_simp) (fun w u h1 => g_zroot (by omega) w u ((zx_zv' eA (Nat.le_refl _)) _ _ h1))
        · exact owe_move rfl (wants_all rfl) (Or.inl rfl) (opnd_op 1 61 (by kernel_rfl) rfl) rfl
        · exact owe_ext2 rfl (wants_all rfl) rfl (opnd_op 2 59 (by kernel_rfl) rfl) (Or.inl ⟨rfl, rfl⟩) rfl
        · exact owe_ext2 rfl (wants_all rfl) rfl (opnd_op 2 59 (by kernel_rfl) rfl) (Or.inr ⟨rfl, rfl⟩) rfl
        · exact owe_new rfl (wants_all rfl) rfl rfl (fun ρ w => alloc_int ρ _ w)
        · exact owe_put 5 rfl (wants_all rfl) rfl (by kernel_rfl) rfl (opnd_op 3 62 (by kernel_rfl) rfl) (stores_of strct_int shp_z0 shp_zn) rfl
        · exact owe_move rfl (wants_all rfl) (Or.inr rfl) (opnd_op 4 63 (by kernel_rfl) rfl) rfl
      intro B6 a6 W6 S6
      replace S6 : Sta w 157 [(2, (.box 24 (Zx s p n c xs))), (8, (.box 24 ((ZN (Z)) w.heap.size))), (11, (.box 24 ((ZN (rtV (A))) w.heap.size)))] [(10, (Is (.int .i64 (rtE (A))))), (58, (Is (.bool false))), (1, (Is (str l))), (1000001, TT), (0, TB)] B6 a6 W6 := S6
      refine wp_have3 (fun a W => ∃ Bq, Sta w 157 [(2, (.box 24 (Zx s p n c xs)))] [(0, TB)] Bq a W) ?_ (fun tail6 => ?_)
      · rintro a7 W7 ⟨B7, S7⟩
        refine wp_stmt_seq [.val (Zx s p n c xs),
      .val ((THREE (IS (.int .u64 (tM A : Nat))) (IS (.int .i64 (tE A : Nat))) (IS (.bool (tI A)))) w.heap.size),
      .val ((THREE (IS (.int .u64 (tM A : Nat))) (IS (.int .i64 (tE A : Nat))) (IS (.bool (tI A)))) w.heap.size),
      .val (Is (.int .u64 (tM A : Nat))),
      .val (Is (.int .i64 (tE A : Nat))),
      .val (Is (.bool (tI A))),
      .val (Is (.int .u64 (tM A : Nat))),
      .val (Is (.int .i64 (tE A : Nat))),
      .val (Is (.bool (tI A)))] [.inr 0] [.inl 6, .inl 7, .inl 8, .inr 0] follows S7 rfl (by kernel_rfl) ?_ ?_
        · refine ⟨⟨⟨⟨⟨⟨⟨⟨⟨trivial, ?_⟩, ?_⟩, ?_⟩, ?_⟩, ?_⟩, ?_⟩, ?_⟩, ?_⟩, ?_⟩
          · exact owe_load rfl (wants_all rfl) rfl (k := 0) rfl (by kernel_rfl) (loads_of strct_int shp_zx) rfl
          · exact owe_call1T rfl (wants_all rfl) rfl (opnd_op 0 97 (by kernel_rfl) rfl) (opnd_slot 0 0 rfl (by kernel_rfl)) (fresh_three (fresh_is _) (fresh_is _) (fresh_is _)) rfl (fun args w => by go_simp) (fun w u hT h1 => g_ztop (by omega) w u hT ((zx_zv' eA (Nat.le_refl _)) _ _ h1))
          · exact owe_move rfl (wants_all rfl) (Or.inl rfl) (opnd_op 1 98 (by kernel_rfl) rfl) rfl
          · exact owe_ext3 rfl (wants_all rfl) rfl (opnd_op 2 96 (by kernel_rfl) rfl) (Or.inl ⟨rfl, rfl⟩) rfl
          · exact owe_ext3 rfl (wants_all rfl) rfl (opnd_op 2 96 (by kernel_rfl) rfl) (Or.inr (Or.inl ⟨rfl, rfl⟩)) rfl
          · exact owe_ext3 rfl (wants_all rfl) rfl (opnd_op 2 96 (by kernel_rfl) rfl) (Or.inr (Or.inr ⟨rfl, rfl⟩)) rfl
          · exact owe_move rfl (wants_all rfl) (Or.inr rfl) (opnd_op 3 99 (by kernel_rfl) rfl) rfl
          · exact owe_move rfl (wants_all rfl) (Or.inr rfl) (opnd_op 4 100 (by kernel_rfl) rfl) rfl
          · exact owe_move rfl (wants_all rfl) (Or.inr rfl) (opnd_op 5 101 (by kernel_rfl) rfl) rfl
        intro B8 a8 W8 S8
        replace S8 : Sta w 157 [(2, (.box 24 (Zx s p n c xs)))] [(13, (Is (.int .u64 (tM A : Nat)))), (14, (Is (.int .i64 (tE A : Nat)))), (15, (Is (.bool (tI A)))), (0, TB)] B8 a8 W8 := S8
        refine wp_seq_join (fun a W => ∃ Bq, Sta w 157 [(2, (.box 24 (Zx s p n c xs)))] [(13, (Is (.int .u64 (tM A : Nat)))), (14, (Is (.int .i64 (tE A : Nat)))), (15, (Is (.bool (tI A))))] Bq a W) ?_ ?_
        · rintro a9 W9 ⟨B9, S9⟩
          refine wp_stmt_seq [.val (Is (.int .u64 (tM A : Nat))),
      .val (Is (.int .i64 ((tM A : Nat) : Int))),
      .val ((ZN ((tM A : Nat) : Int)) w.heap.size),
      .val (Is (.int .i64 (tE A : Nat))),
      .val ((TWO (ZN (sw ((tM A : Nat) : Int) ((tE A : Nat) : Int))) (IS (.int .i64 (se ((tE A : Nat) : Int))))) w.heap.size),
      .val ((TWO (ZN (sw ((tM A : Nat) : Int) ((tE A : Nat) : Int))) (IS (.int .i64 (se ((tE A : Nat) : Int))))) w.heap.size),
      .val ((ZN (sw ((tM A : Nat) : Int) ((tE A : Nat) : Int))) w.heap.size),
      .val (Is (.int .i64 (se ((tE A : Nat) : Int)))),
      .new (.box 24 (Is (.agg #[.bool false, .slice none 0 0]))),
      .put (.inr 8) (.box 24 ((ZN (sw ((tM A : Nat) : Int) ((tE A : Nat) : Int))) w.heap.size)),
      .val (Is (.int .i64 (se ((tE A : Nat) : Int))))] [.inr 0, .inl 8] [.inl 10, .inr 0, .inr 1, .inr 2] follows S9 rfl (by kernel_rfl) ?_ ?_
          · refine ⟨⟨⟨⟨⟨⟨⟨⟨⟨⟨⟨trivial, ?_⟩, ?_⟩, ?_⟩, ?_⟩, ?_⟩, ?_⟩, ?_⟩, ?_⟩, ?_⟩, ?_⟩, ?_⟩
            · exact owe_move rfl (wants_all rfl) (Or.inl rfl) (opnd_slot 0 13 rfl (by kernel_rfl)) rfl
            · exact owe_un (x := .tmp 117) rfl (wants_all rfl) rfl (opnd_op 0 117 (by kernel_rfl) rfl) rfl (fun ρ w h1 => by exact run_conv_u64_i64 ρ _ _ w _ ⟨by omega, by omega⟩ h1)
            · exact owe_call1 rfl (wants_all rfl) rfl (opnd_op 1 118 (by kernel_rfl) rfl) (fresh_zn _) rfl (fun args w => by go_simp) (g_zof ((tM A : Nat) : Int) (by omega) (by omega))
            · exact owe_move rfl (wants_all rfl) (Or.inl rfl) (opnd_slot 1 14 rfl (by kernel_rfl)) rfl
            · exact owe_call2 rfl (wants_all rfl) rfl (opnd_op 2 119 (by kernel_rfl) rfl) (opnd_op 3 120 (by kernel_rfl) rfl) (fresh_two (fresh_zn _) (fresh_is _)) rfl (fun args w => by go_simp) (fun w u v h1 h2 => g_zshift (z := ((tE A : Nat) : Int)) (by omega) (by omega) (by omega) w u v ((zn_zv (Nat.le_refl _)) _ _ h1) h2)
            · exact owe_move rfl (wants_all rfl) (Or.inl rfl) (opnd_op 4 121 (by kernel_rfl) rfl) rfl
            · exact owe_ext2 rfl (wants_all rfl) rfl (opnd_op 5 116 (by kernel_rfl) rfl) (Or.inl ⟨rfl, rfl⟩) rfl
            · exact owe_ext2 rfl (wants_all rfl) rfl (opnd_op 5 116 (by kernel_rfl) rfl) (Or.inr ⟨rfl, rfl⟩) rfl
            · exact owe_new rfl (wants_all rfl) rfl rfl (fun ρ w => alloc_int ρ _ w)
            · exact owe_put 8 rfl (wants_all rfl) rfl (by kernel_rfl) rfl (opnd_op 6 122 (by kernel_rfl) rfl) (stores_of strct_int shp_z0 shp_zn) rfl
            · exact owe_move rfl (wants_all rfl) (Or.inr rfl) (opnd_op 7 123 (by kernel_rfl) rfl) rfl
          intro B10 a10 W10 S10
          replace S10 : Sta w 157 [(2, (.box 24 (Zx s p n c xs))), (16, (.box 24 ((ZN (sw ((tM A : Nat) : Int) ((tE A : Nat) : Int))) w.heap.size)))] [(17, (Is (.int .i64 (se ((tE A : Nat) : Int))))), (13, (Is (.int .u64 (tM A : Nat)))), (14, (Is (.int .i64 (tE A : Nat)))), (15, (Is (.bool (tI A))))] B10 a10 W10 := S10
          refine wp_stmt_seq [.val (Is (.int .u64 (tM A : Nat))),
      .val (Is (.int .i64 ((tM A : Nat) : Int))),
      .val (Is (.int .i64 (((tM A : Nat) : Int) + 1))),
      .val ((ZN (((tM A : Nat) : Int) + 1)) w.heap.size),
      .val (Is (.int .i64 (tE A : Nat))),
      .val ((TWO (ZN (sw (((tM A : Nat) : Int) + 1) ((tE A : Nat) : Int))) (IS (.int .i64 (se ((tE A : Nat) : Int))))) w.heap.size),
      .val ((TWO (ZN (sw (((tM A : Nat) : Int) + 1) ((tE A : Nat) : Int))) (IS (.int .i64 (se ((tE A : Nat) : Int))))) w.heap.size),
      .val ((ZN (sw (((tM A : Nat) : Int) + 1) ((tE A : Nat) : Int))) w.heap.size),
      .val (Is (.int .i64 (se ((tE A : Nat) : Int)))),
      .new (.box 24 (Is (.agg #[.bool false, .slice none 0 0]))),
      .put (.inr 9) (.box 24 ((ZN (sw (((tM A : Nat) : Int) + 1) ((tE A : Nat) : Int))) w.heap.size)),
      .val (Is (.int .i64 (se ((tE A : Nat) : Int))))] [.inr 0, .inr 1, .inl 9] [.inr 0, .inr 1, .inr 2, .inr 3] follows S10 rfl (by kernel_rfl) ?_ ?_
          · refine ⟨⟨⟨⟨⟨⟨⟨⟨⟨⟨⟨⟨trivial, ?_⟩, ?_⟩, ?_⟩, ?_⟩, ?_⟩, ?_⟩, ?_⟩, ?_⟩, ?_⟩, ?_⟩, ?_⟩, ?_⟩
            · exact owe_move rfl (wants_all rfl) (Or.inl rfl) (opnd_slot 1 13 rfl (by kernel_rfl)) rfl
            · exact owe_un (x := .tmp 125) rfl (wants_all rfl) rfl (opnd_op 0 125 (by kernel_rfl) rfl) rfl (fun ρ w h1 => by exact run_conv_u64_i64 ρ _ _ w _ ⟨by omega, by omega⟩ h1)
            · exact owe_bin rfl (wants_all rfl) rfl (opnd_op 1 126 (by kernel_rfl) rfl) (opnd_const _) rfl (fun ρ w h1 h2 => by exact run_add_i64 ρ _ _ _ w _ _ _ ⟨rfl, by omega, by omega⟩ h1 h2)
            · exact owe_call1 rfl (wants_all rfl) rfl (opnd_op 2 127 (by kernel_rfl) rfl) (fresh_zn _) rfl (fun args w => by go_simp) (g_zof (((tM A : Nat) : Int) + 1) (by omega) (by omega))
            · exact owe_move rfl (wants_all rfl) (Or.inl rfl) (opnd_slot 2 14 rfl (by kernel_rfl)) rfl
            · exact owe_call2 rfl (wants_all rfl) rfl (opnd_op 3 128 (by kernel_rfl) rfl) (opnd_op 4 129 (by kernel_rfl) rfl) (fresh_two (fresh_zn _) (fresh_is _)) rfl (fun args w => by go_simp) (fun w u v h1 h2 => g_zshift (z := ((tE A : Nat) : Int)) (by omega) (by omega) (by omega) w u v ((zn_zv dM1) _ _ h1) h2)
            · exact owe_move rfl (wants_all rfl) (Or.inl rfl) (opnd_op 5 130 (by kernel_rfl) rfl) rfl
            · exact owe_ext2 rfl (wants_all rfl) rfl (opnd_op 6 124 (by kernel_rfl) rfl) (Or.inl ⟨rfl, rfl⟩) rfl
            · exact owe_ext2 rfl (wants_all rfl) rfl (opnd_op 6 124 (by kernel_rfl) rfl) (Or.inr ⟨rfl, rfl⟩) rfl
            · exact owe_new rfl (wants_all rfl) rfl rfl (fun ρ w => alloc_int ρ _ w)
            · exact owe_put 9 rfl (wants_all rfl) rfl (by kernel_rfl) rfl (opnd_op 7 131 (by kernel_rfl) rfl) (stores_of strct_int shp_z0 shp_zn) rfl
            · exact owe_move rfl (wants_all rfl) (Or.inr rfl) (opnd_op 8 132 (by kernel_rfl) rfl) rfl
          intro B11 a11 W11 S11
          replace S11 : Sta w 157 [(2, (.box 24 (Zx s p n c xs))), (16, (.box 24 ((ZN (sw ((tM A : Nat) : Int) ((tE A : Nat) : Int))) w.heap.size))), (18, (.box 24 ((ZN (sw (((tM A : Nat) : Int) + 1) ((tE A : Nat) : Int))) w.heap.size)))] [(17, (Is (.int .i64 (se ((tE A : Nat) : Int))))), (13, (Is (.int .u64 (tM A : Nat)))), (14, (Is (.int .i64 (tE A : Nat)))), (15, (Is (.bool (tI A))))] B11 a11 W11 := S11
          rcases Nat.lt_or_ge 65536 (tE A) with hf | hf
          · skip
            obtain ⟨u1, u2, u3⟩ := top_far hf
            refine wp_seq ?_
            refine wp_stmt_seq [.val (Is (.int .i64 (se ((tE A : Nat) : Int)))),
      .val (Is (.bool true))] [.inr 0, .inr 1, .inr 2] [.inl 1, .inr 1, .inr 2, .inr 3] follows S11 rfl (by kernel_rfl) ?_ ?_
            · refine ⟨⟨trivial, ?_⟩, ?_⟩
              · exact owe_move rfl (wants_all rfl) (Or.inl rfl) (opnd_slot 0 17 rfl (by kernel_rfl)) rfl
              · exact owe_bin rfl (wants_all rfl) rfl (opnd_op 0 133 (by kernel_rfl) rfl) (opnd_const _) rfl (fun ρ w h1 h2 => by exact run_neq_errno_t ρ _ _ _ w _ _ (by rw [u3]; decide) h1 h2)
            intro B12 a12 W12 S12
            replace S12 : Sta w 157 [(2, (.box 24 (Zx s p n c xs))), (16, (.box 24 ((ZN (sw ((tM A : Nat) : Int) ((tE A : Nat) : Int))) w.heap.size))), (18, (.box 24 ((ZN (sw (((tM A : Nat) : Int) + 1) ((tE A : Nat) : Int))) w.heap.size)))] [(134, (Is (.bool true))), (13, (Is (.int .u64 (tM A : Nat)))), (14, (Is (.int .i64 (tE A : Nat)))), (15, (Is (.bool (tI A))))] B12 a12 W12 := S12
            refine wp_cond_true (S12.bool 0 134 rfl) ?_
            refine wp_stmt_seq [.val (Is (.int .i64 (tE A : Nat))),
      .val (Is (.bool true)),
      .val (Is (.bool true))] [.inr 0, .inr 1, .inr 2] [.inl 2, .inr 0, .inr 1, .inr 2, .inr 3] follows S12 rfl (by kernel_rfl) ?_ ?_
            · refine ⟨⟨⟨trivial, ?_⟩, ?_⟩, ?_⟩
              · exact owe_move rfl (wants_all rfl) (Or.inl rfl) (opnd_slot 2 14 rfl (by kernel_rfl)) rfl
              · exact owe_bin rfl (wants_all rfl) rfl (opnd_op 0 135 (by kernel_rfl) rfl) (opnd_const _) rfl (fun ρ w h1 h2 => by exact run_gtr_int_t ρ _ _ _ w _ _ (by omega) h1 h2)
              · exact owe_move rfl (wants_all rfl) (Or.inr rfl) (opnd_op 1 136 (by kernel_rfl) rfl) rfl
            intro B13 a13 W13 S13
            replace S13 : Sta w 157 [(2, (.box 24 (Zx s p n c xs))), (16, (.box 24 ((ZN (sw ((tM A : Nat) : Int) ((tE A : Nat) : Int))) w.heap.size))), (18, (.box 24 ((ZN (sw (((tM A : Nat) : Int) + 1) ((tE A : Nat) : Int))) w.heap.size)))] [(4, (Is (.bool true))), (134, (Is (.bool true))), (13, (Is (.int .u64 (tM A : Nat)))), (14, (Is (.int .i64 (tE A : Nat)))), (15, (Is (.bool (tI A))))] B13 a13 W13 := S13
            refine wp_ret ?_
            refine thenR ?_
            exact end_one S13 rfl (res_tmp S13 0 4 rfl)
          · skip
            obtain ⟨u1, u2, u3⟩ := top_up hf
            have tlo := top_lo A
            have thi := top_hi A
            have u1n : 0 ≤ sw ((tM A : Nat) : Int) ((tE A : Nat) : Int) := by rw [u1]; omega
            have c1 : (sw ((tM A : Nat) : Int) ((tE A : Nat) : Int) - ((A.natAbs : Nat) : Int)).sign ≤ 0 := sgn_le (by rw [u1]; omega)
            have c2 : 0 < (sw (((tM A : Nat) : Int) + 1) ((tE A : Nat) : Int) - ((A.natAbs : Nat) : Int)).sign := sgn_gt (by rw [u2]; omega)
            refine wp_seq ?_
            refine wp_stmt_seq [.val (Is (.int .i64 (se ((tE A : Nat) : Int)))),
      .val (Is (.bool false))] [.inr 0, .inr 1, .inr 2] [.inl 1, .inr 1, .inr 2, .inr 3] follows S11 rfl (by kernel_rfl) ?_ ?_
            · refine ⟨⟨trivial, ?_⟩, ?_⟩
              · exact owe_move rfl (wants_all rfl) (Or.inl rfl) (opnd_slot 0 17 rfl (by kernel_rfl)) rfl
              · exact owe_bin rfl (wants_all rfl) rfl (opnd_op 0 133 (by kernel_rfl) rfl) (opnd_const _) rfl (fun ρ w h1 h2 => by exact run_neq_errno_f ρ _ _ _ w _ _ u3 h1 h2)
            intro B12 a12 W12 S12
            replace S12 : Sta w 157 [(2, (.box 24 (Zx s p n c xs))), (16, (.box 24 ((ZN (sw ((tM A : Nat) : Int) ((tE A : Nat) : Int))) w.heap.size))), (18, (.box 24 ((ZN (sw (((tM A : Nat) : Int) + 1) ((tE A : Nat) : Int))) w.heap.size)))] [(134, (Is (.bool false))), (13, (Is (.int .u64 (tM A : Nat)))), (14, (Is (.int .i64 (tE A : Nat)))), (15, (Is (.bool (tI A))))] B12 a12 W12 := S12
            refine wp_cond_false (S12.bool 0 134 rfl) ?_
            refine wp_skip ?_
            refine thenN ?_
            rcases (show (tI A = true ∧ sw ((tM A : Nat) : Int) ((tE A : Nat) : Int) = ((A.natAbs : Nat) : Int)) ∨ (tI A = false ∧ sw ((tM A : Nat) : Int) ((tE A : Nat) : Int) ≠ ((A.natAbs : Nat) : Int)) from by have ti := top_is A; rw [u1]; cases hI : tI A with | true => exact Or.inl ⟨rfl, by have := ti.1 hI; omega⟩ | false => exact Or.inr ⟨rfl, fun e => by have := ti.2 (by omega); rw [hI] at this; cases this⟩) with ⟨hI, hUA⟩ | ⟨hI, hUA⟩
            · skip
              refine wp_stmt_seq [.val ((ZN (sw ((tM A : Nat) : Int) ((tE A : Nat) : Int))) w.heap.size),
      .val (Zx s p n c xs),
      .val ((ZN (((A.natAbs : Nat) : Int))) w.heap.size),
      .val (Is (.int .i64 ((sw ((tM A : Nat) : Int) ((tE A : Nat) : Int)) - (((A.natAbs : Nat) : Int))).sign)),
      .val (Is (.bool true)),
      .val (Is (.bool true)),
      .val ((ZN (sw (((tM A : Nat) : Int) + 1) ((tE A : Nat) : Int))) w.heap.size),
      .val (Zx s p n c xs),
      .val ((ZN (((A.natAbs : Nat) : Int))) w.heap.size),
      .val (Is (.int .i64 ((sw (((tM A : Nat) : Int) + 1) ((tE A : Nat) : Int)) - (((A.natAbs : Nat) : Int))).sign)),
      .val (Is (.bool true)),
      .val (Is (.bool true)),
      .val (Is (.bool true)),
      .val (Is (.bool (tI A))),
      .val ((ZN (sw ((tM A : Nat) : Int) ((tE A : Nat) : Int))) w.heap.size),
      .val (Zx s p n c xs),
      .val ((ZN (((A.natAbs : Nat) : Int))) w.heap.size),
      .val (Is (.bool true)),
      .val (Is (.bool true)),
      .val (Is (.bool true)),
      .val (Is (.bool true))] [.inr 0, .inr 1, .inr 2] [.inl 20, .inr 0, .inr 1, .inr 2] follows S12 rfl (by kernel_rfl) ?_ ?_
              · refine ⟨⟨⟨⟨⟨⟨⟨⟨⟨⟨⟨⟨⟨⟨⟨⟨⟨⟨⟨⟨⟨trivial, ?_⟩, ?_⟩, ?_⟩, ?_⟩, ?_⟩, ?_⟩, ?_⟩, ?_⟩, ?_⟩, ?_⟩, ?_⟩, ?_⟩, ?_⟩, ?_⟩, ?_⟩, ?_⟩, ?_⟩, ?_⟩, ?_⟩, ?_⟩, ?_⟩
                · exact owe_load rfl (wants_all rfl) rfl (k := 1) rfl (by kernel_rfl) (loads_of strct_int shp_zn) rfl
                · exact owe_load rfl (wants_all rfl) rfl (k := 0) rfl (by kernel_rfl) (loads_of strct_int shp_zx) rfl
                · exact owe_call1 rfl (wants_all rfl) rfl (opnd_op 1 138 (by kernel_rfl) rfl) (fresh_zn _) rfl (fun args w => by go_simp) (fun w u h1 => h_zabs (by omega) w u ((zx_zv' eA (Nat.le_refl _)) _ _ h1))
                · exact owe_call2 rfl (wants_all rfl) rfl (opnd_op 0 137 (by kernel_rfl) rfl) (opnd_op 2 139 (by kernel_rfl) rfl) (fresh_is _) rfl (fun args w => by go_simp) (fun w u v h1 h2 => h_zcmp (by omega) (by omega) w u v ((zn_zv dU) _ _ h1) ((zn_zv dABS) _ _ h2))
                · exact owe_bin rfl (wants_all rfl) rfl (opnd_op 3 140 (by kernel_rfl) rfl) (opnd_const _) rfl (fun ρ w h1 h2 => by exact run_leq_int_t ρ _ _ _ w _ _ c1 h1 h2)
                · exact owe_move rfl (wants_all rfl) (Or.inl rfl) (opnd_op 4 141 (by kernel_rfl) rfl) rfl
                · exact owe_load rfl (wants_if 5 142 rfl (by kernel_rfl) rfl) rfl (k := 2) rfl (by kernel_rfl) (loads_of strct_int shp_zn) rfl
                · exact owe_load rfl (wants_if 5 142 rfl (by kernel_rfl) rfl) rfl (k := 0) rfl (by kernel_rfl) (loads_of strct_int shp_zx) rfl
                · exact owe_call1 rfl (wants_if 5 142 rfl (by kernel_rfl) rfl) rfl (opnd_op 7 144 (by kernel_rfl) rfl) (fresh_zn _) rfl (fun args w => by go_simp) (fun w u h1 => h_zabs (by omega) w u ((zx_zv' eA (Nat.le_refl _)) _ _ h1))
                · exact owe_call2 rfl (wants_if 5 142 rfl (by kernel_rfl) rfl) rfl (opnd_op 6 143 (by kernel_rfl) rfl) (opnd_op 8 145 (by kernel_rfl) rfl) (fresh_is _) rfl (fun args w => by go_simp) (fun w u v h1 h2 => h_zcmp (by omega) (by omega) w u v ((zn_zv dN) _ _ h1) ((zn_zv dABS) _ _ h2))
                · exact owe_bin rfl (wants_if 5 142 rfl (by kernel_rfl) rfl) rfl (opnd_op 9 146 (by kernel_rfl) rfl) (opnd_const _) rfl (fun ρ w h1 h2 => by exact run_gtr_int_t ρ _ _ _ w _ _ c2 h1 h2)
                · exact owe_pick rfl (wants_all rfl) rfl (opnd_op 5 142 (by kernel_rfl) rfl) (fun _ => (opnd_op 10 147 (by kernel_rfl) rfl)) (fun h => nomatch h) rfl
                · exact owe_move rfl (wants_all rfl) (Or.inl rfl) (opnd_op 11 148 (by kernel_rfl) rfl) rfl
                · exact owe_move rfl (wants_if 12 149 rfl (by kernel_rfl) rfl) (Or.inl rfl) (opnd_slot 3 15 rfl (by kernel_rfl)) rfl
                · exact owe_load rfl (wants_if 12 149 rfl (by kernel_rfl) rfl) rfl (k := 1) rfl (by kernel_rfl) (loads_of strct_int shp_zn) rfl
                · exact owe_load rfl (wants_if 12 149 rfl (by kernel_rfl) rfl) rfl (k := 0) rfl (by kernel_rfl) (loads_of strct_int shp_zx) rfl
                · exact owe_call1 rfl (wants_if 12 149 rfl (by kernel_rfl) rfl) rfl (opnd_op 15 152 (by kernel_rfl) rfl) (fresh_zn _) rfl (fun args w => by go_simp) (fun w u h1 => h_zabs (by omega) w u ((zx_zv' eA (Nat.le_refl _)) _ _ h1))
                · exact owe_call2 rfl (wants_if 12 149 rfl (by kernel_rfl) rfl) rfl (opnd_op 14 151 (by kernel_rfl) rfl) (opnd_op 16 153 (by kernel_rfl) rfl) (fresh_is _) rfl (fun args w => by go_simp) (fun w u v h1 h2 => g_eq w u v h1 (by rw [hUA]; exact h2))
                · exact owe_bin rfl (wants_if 12 149 rfl (by kernel_rfl) rfl) rfl (opnd_op 13 150 (by kernel_rfl) rfl) (opnd_op 17 154 (by kernel_rfl) rfl) rfl (fun ρ w h1 h2 => by rw [hI] at h1; exact run_eqb ρ _ _ _ w true h1 h2)
                · exact owe_pick rfl (wants_all rfl) rfl (opnd_op 12 149 (by kernel_rfl) rfl) (fun _ => (opnd_op 18 155 (by kernel_rfl) rfl)) (fun h => nomatch h) rfl
                · exact owe_move rfl (wants_all rfl) (Or.inr rfl) (opnd_op 19 156 (by kernel_rfl) rfl) rfl
              intro B13 a13 W13 S13
              replace S13 : Sta w 157 [(2, (.box 24 (Zx s p n c xs))), (16, (.box 24 ((ZN (sw ((tM A : Nat) : Int) ((tE A : Nat) : Int))) w.heap.size))), (18, (.box 24 ((ZN (sw (((tM A : Nat) : Int) + 1) ((tE A : Nat) : Int))) w.heap.size)))] [(4, (Is (.bool true))), (134, (Is (.bool false))), (13, (Is (.int .u64 (tM A : Nat)))), (14, (Is (.int .i64 (tE A : Nat))))] B13 a13 W13 := S13
              refine wp_ret ?_
              exact end_one S13 rfl (res_tmp S13 0 4 rfl)
            · skip
              refine wp_stmt_seq [.val ((ZN (sw ((tM A : Nat) : Int) ((tE A : Nat) : Int))) w.heap.size),
      .val (Zx s p n c xs),
      .val ((ZN (((A.natAbs : Nat) : Int))) w.heap.size),
      .val (Is (.int .i64 ((sw ((tM A : Nat) : Int) ((tE A : Nat) : Int)) - (((A.natAbs : Nat) : Int))).sign)),
      .val (Is (.bool true)),
      .val (Is (.bool true)),
      .val ((ZN (sw (((tM A : Nat) : Int) + 1) ((tE A : Nat) : Int))) w.heap.size),
      .val (Zx s p n c xs),
      .val ((ZN (((A.natAbs : Nat) : Int))) w.heap.size),
      .val (Is (.int .i64 ((sw (((tM A : Nat) : Int) + 1) ((tE A : Nat) : Int)) - (((A.natAbs : Nat) : Int))).sign)),
      .val (Is (.bool true)),
      .val (Is (.bool true)),
      .val (Is (.bool true)),
      .val (Is (.bool (tI A))),
      .val ((ZN (sw ((tM A : Nat) : Int) ((tE A : Nat) : Int))) w.heap.size),
      .val (Zx s p n c xs),
      .val ((ZN (((A.natAbs : Nat) : Int))) w.heap.size),
      .val (Is (.bool false)),
      .val (Is (.bool true)),
      .val (Is (.bool true)),
      .val (Is (.bool true))] [.inr 0, .inr 1, .inr 2] [.inl 20, .inr 0, .inr 1, .inr 2] follows S12 rfl (by kernel_rfl) ?_ ?_
              · refine ⟨⟨⟨⟨⟨⟨⟨⟨⟨⟨⟨⟨⟨⟨⟨⟨⟨⟨⟨⟨⟨trivial, ?_⟩, ?_⟩, ?_⟩, ?_⟩, ?_⟩, ?_⟩, ?_⟩, ?_⟩, ?_⟩, ?_⟩, ?_⟩, ?_⟩, ?_⟩, ?_⟩, ?_⟩, ?_⟩, ?_⟩, ?_⟩, ?_⟩, ?_⟩, ?_⟩
                · exact owe_load rfl (wants_all rfl) rfl (k := 1) rfl (by kernel_rfl) (loads_of strct_int shp_zn) rfl
                · exact owe_load rfl (wants_all rfl) rfl (k := 0) rfl (by kernel_rfl) (loads_of strct_int shp_zx) rfl
                · exact owe_call1 rfl (wants_all rfl) rfl (opnd_op 1 138 (by kernel_rfl) rfl) (fresh_zn _) rfl (fun args w => by go_simp) (fun w u h1 => h_zabs (by omega) w u ((zx_zv' eA (Nat.le_refl _)) _ _ h1))
                · exact owe_call2 rfl (wants_all rfl) rfl (opnd_op 0 137 (by kernel_rfl) rfl) (opnd_op 2 139 (by kernel_rfl) rfl) (fresh_is _) rfl (fun args w => by go_simp) (fun w u v h1 h2 => h_zcmp (by omega) (by omega) w u v ((zn_zv dU) _ _ h1) ((zn_zv dABS) _ _ h2))
                · exact owe_bin rfl (wants_all rfl) rfl (opnd_op 3 140 (by kernel_rfl) rfl) (opnd_const _) rfl (fun ρ w h1 h2 => by exact run_leq_int_t ρ _ _ _ w _ _ c1 h1 h2)
                · exact owe_move rfl (wants_all rfl) (Or.inl rfl) (opnd_op 4 141 (by kernel_rfl) rfl) rfl
                · exact owe_load rfl (wants_if 5 142 rfl (by kernel_rfl) rfl) rfl (k := 2) rfl (by kernel_rfl) (loads_of strct_int shp_zn) rfl
                · exact owe_load rfl (wants_if 5 142 rfl (by kernel_rfl) rfl) rfl (k := 0) rfl (by kernel_rfl) (loads_of strct_int shp_zx) rfl
                · exact owe_call1 rfl (wants_if 5 142 rfl (by kernel_rfl) rfl) rfl (opnd_op 7 144 (by kernel_rfl) rfl) (fresh_zn _) rfl (fun args w => by go_simp) (fun w u h1 => h_zabs (by omega) w u ((zx_zv' eA (Nat.le_refl _)) _ _ h1))
                · exact owe_call2 rfl (wants_if 5 142 rfl (by kernel_rfl) rfl) rfl (opnd_op 6 143 (by kernel_rfl) rfl) (opnd_op 8 145 (by kernel_rfl) rfl) (fresh_is _) rfl (fun args w => by go_simp) (fun w u v h1 h2 => h_zcmp (by omega) (by omega) w u v ((zn_zv dN) _ _ h1) ((zn_zv dABS) _ _ h2))
                · exact owe_bin rfl (wants_if 5 142 rfl (by kernel_rfl) rfl) rfl (opnd_op 9 146 (by kernel_rfl) rfl) (opnd_const _) rfl (fun ρ w h1 h2 => by exact run_gtr_int_t ρ _ _ _ w _ _ c2 h1 h2)
                · exact owe_pick rfl (wants_all rfl) rfl (opnd_op 5 142 (by kernel_rfl) rfl) (fun _ => (opnd_op 10 147 (by kernel_rfl) rfl)) (fun h => nomatch h) rfl
                · exact owe_move rfl (wants_all rfl) (Or.inl rfl) (opnd_op 11 148 (by kernel_rfl) rfl) rfl
                · exact owe_move rfl (wants_if 12 149 rfl (by kernel_rfl) rfl) (Or.inl rfl) (opnd_slot 3 15 rfl (by kernel_rfl)) rfl
                · exact owe_load rfl (wants_if 12 149 rfl (by kernel_rfl) rfl) rfl (k := 1) rfl (by kernel_rfl) (loads_of strct_int shp_zn) rfl
                · exact owe_load rfl (wants_if 12 149 rfl (by kernel_rfl) rfl) rfl (k := 0) rfl (by kernel_rfl) (loads_of strct_int shp_zx) rfl
                · exact owe_call1 rfl (wants_if 12 149 rfl (by kernel_rfl) rfl) rfl (opnd_op 15 152 (by kernel_rfl) rfl) (fresh_zn _) rfl (fun args w => by go_simp) (fun w u h1 => h_zabs (by omega) w u ((zx_zv' eA (Nat.le_refl _)) _ _ h1))
                · exact owe_call2 rfl (wants_if 12 149 rfl (by kernel_rfl) rfl) rfl (opnd_op 14 151 (by kernel_rfl) rfl) (opnd_op 16 153 (by kernel_rfl) rfl) (fresh_is _) rfl (fun args w => by go_simp) (g_neq (by omega) (by omega) hUA)
                · exact owe_bin rfl (wants_if 12 149 rfl (by kernel_rfl) rfl) rfl (opnd_op 13 150 (by kernel_rfl) rfl) (opnd_op 17 154 (by kernel_rfl) rfl) rfl (fun ρ w h1 h2 => by rw [hI] at h1; exact run_eqb ρ _ _ _ w false h1 h2)
                · exact owe_pick rfl (wants_all rfl) rfl (opnd_op 12 149 (by kernel_rfl) rfl) (fun _ => (opnd_op 18 155 (by kernel_rfl) rfl)) (fun h => nomatch h) rfl
                · exact owe_move rfl (wants_all rfl) (Or.inr rfl) (opnd_op 19 156 (by kernel_rfl) rfl) rfl
              intro B13 a13 W13 S13
              replace S13 : Sta w 157 [(2, (.box 24 (Zx s p n c xs))), (16, (.box 24 ((ZN (sw ((tM A : Nat) : Int) ((tE A : Nat) : Int))) w.heap.size))), (18, (.box 24 ((ZN (sw (((tM A : Nat) : Int) + 1) ((tE A : Nat) : Int))) w.heap.size)))] [(4, (Is (.bool true))), (134, (Is (.bool false))), (13, (Is (.int .u64 (tM A : Nat)))), (14, (Is (.int .i64 (tE A : Nat))))] B13 a13 W13 := S13
              refine wp_ret ?_
              exact end_one S13 rfl (res_tmp S13 0 4 rfl)
        · rcases Nat.eq_zero_or_pos (tE A) with he | he
          · skip
            refine wp_stmt_seq [.val (Is (.int .u64 (tM A : Nat))),
      .val (Is (.bool false)),
      .val (Is (.bool false)),
      .val (Is (.int .i64 (tE A : Nat))),
      .val (Is (.bool false)),
      .val (Is (.bool false)),
      .val (Is (.bool false)),
      .val (Is (.int .i64 (tE A : Nat))),
      .val (Is (.bool false)),
      .val (Is (.bool false)),
      .off,
      .off,
      .val (Is (.bool false)),
      .val (Is (.bool false))] [.inr 0] [.inl 13, .inr 0, .inr 1, .inr 2, .inr 3] follows S8 rfl (by kernel_rfl) ?_ ?_
            · refine ⟨⟨⟨⟨⟨⟨⟨⟨⟨⟨⟨⟨⟨⟨trivial, ?_⟩, ?_⟩, ?_⟩, ?_⟩, ?_⟩, ?_⟩, ?_⟩, ?_⟩, ?_⟩, ?_⟩, ?_⟩, ?_⟩, ?_⟩, ?_⟩
              · exact owe_move rfl (wants_all rfl) (Or.inl rfl) (opnd_slot 0 13 rfl (by kernel_rfl)) rfl
              · exact owe_bin rfl (wants_all rfl) rfl (opnd_op 0 102 (by kernel_rfl) rfl) (opnd_const _) rfl (fun ρ w h1 h2 => by exact run_geq_u64_f ρ _ _ _ w _ _ (by omega) h1 h2)
              · exact owe_move rfl (wants_all rfl) (Or.inl rfl) (opnd_op 1 103 (by kernel_rfl) rfl) rfl
              · exact owe_move rfl (wants_if 2 104 rfl (by kernel_rfl) rfl) (Or.inl rfl) (opnd_slot 1 14 rfl (by kernel_rfl)) rfl
              · exact owe_bin rfl (wants_if 2 104 rfl (by kernel_rfl) rfl) rfl (opnd_op 3 105 (by kernel_rfl) rfl) (opnd_const _) rfl (fun ρ w h1 h2 => by exact run_lss_int_f ρ _ _ _ w _ _ (by omega) h1 h2)
              · exact owe_pick rfl (wants_all rfl) rfl (opnd_op 2 104 (by kernel_rfl) rfl) (fun h => nomatch h) (fun _ => (opnd_op 4 106 (by kernel_rfl) rfl)) rfl
              · exact owe_move rfl (wants_all rfl) (Or.inl rfl) (opnd_op 5 107 (by kernel_rfl) rfl) rfl
              · exact owe_move rfl (wants_if 6 108 rfl (by kernel_rfl) rfl) (Or.inl rfl) (opnd_slot 1 14 rfl (by kernel_rfl)) rfl
              · exact owe_bin rfl (wants_if 6 108 rfl (by kernel_rfl) rfl) rfl (opnd_op 7 109 (by kernel_rfl) rfl) (opnd_const _) rfl (fun ρ w h1 h2 => by exact run_gtr_int_f ρ _ _ _ w _ _ (by omega) h1 h2)
              · exact owe_move rfl (wants_if 6 108 rfl (by kernel_rfl) rfl) (Or.inl rfl) (opnd_op 8 110 (by kernel_rfl) rfl) rfl
              · exact owe_off 9 111 rfl rfl rfl (by kernel_rfl) rfl (by decide)
              · exact owe_off 9 111 rfl rfl rfl (by kernel_rfl) rfl (by decide)
              · exact owe_pick rfl (wants_if 6 108 rfl (by kernel_rfl) rfl) rfl (opnd_op 9 111 (by kernel_rfl) rfl) (fun h => nomatch h) (fun _ => (opnd_const _)) rfl
              · exact owe_pick rfl (wants_all rfl) rfl (opnd_op 6 108 (by kernel_rfl) rfl) (fun h => nomatch h) (fun _ => (opnd_op 12 114 (by kernel_rfl) rfl)) rfl
            intro B9 a9 W9 S9
            replace S9 : Sta w 157 [(2, (.box 24 (Zx s p n c xs)))] [(115, (Is (.bool false))), (13, (Is (.int .u64 (tM A : Nat)))), (14, (Is (.int .i64 (tE A : Nat)))), (15, (Is (.bool (tI A)))), (0, TB)] B9 a9 W9 := S9
            refine wp_cond_false (S9.bool 0 115 rfl) ?_
            refine wp_skip ?_
            refine thenN ?_
            exact ⟨B9, S9.sub [0] [1, 2, 3]⟩
          · skip
            have h52 := top_52 he
            refine wp_stmt_seq [.val (Is (.int .u64 (tM A : Nat))),
      .val (Is (.bool false)),
      .val (Is (.bool false)),
      .val (Is (.int .i64 (tE A : Nat))),
      .val (Is (.bool false)),
      .val (Is (.bool false)),
      .val (Is (.bool false)),
      .val (Is (.int .i64 (tE A : Nat))),
      .val (Is (.bool true)),
      .val (Is (.bool true)),
      .val (Is (.int .u64 (tM A : Nat))),
      .val (Is (.bool false)),
      .val (Is (.bool false)),
      .val (Is (.bool false))] [.inr 0] [.inl 13, .inr 0, .inr 1, .inr 2, .inr 3] follows S8 rfl (by kernel_rfl) ?_ ?_
            · refine ⟨⟨⟨⟨⟨⟨⟨⟨⟨⟨⟨⟨⟨⟨trivial, ?_⟩, ?_⟩, ?_⟩, ?_⟩, ?_⟩, ?_⟩, ?_⟩, ?_⟩, ?_⟩, ?_⟩, ?_⟩, ?_⟩, ?_⟩, ?_⟩
              · exact owe_move rfl (wants_all rfl) (Or.inl rfl) (opnd_slot 0 13 rfl (by kernel_rfl)) rfl
              · exact owe_bin rfl (wants_all rfl) rfl (opnd_op 0 102 (by kernel_rfl) rfl) (opnd_const _) rfl (fun ρ w h1 h2 => by exact run_geq_u64_f ρ _ _ _ w _ _ (by omega) h1 h2)
              · exact owe_move rfl (wants_all rfl) (Or.inl rfl) (opnd_op 1 103 (by kernel_rfl) rfl) rfl
              · exact owe_move rfl (wants_if 2 104 rfl (by kernel_rfl) rfl) (Or.inl rfl) (opnd_slot 1 14 rfl (by kernel_rfl)) rfl
              · exact owe_bin rfl (wants_if 2 104 rfl (by kernel_rfl) rfl) rfl (opnd_op 3 105 (by kernel_rfl) rfl) (opnd_const _) rfl (fun ρ w h1 h2 => by exact run_lss_int_f ρ _ _ _ w _ _ (by omega) h1 h2)
              · exact owe_pick rfl (wants_all rfl) rfl (opnd_op 2 104 (by kernel_rfl) rfl) (fun h => nomatch h) (fun _ => (opnd_op 4 106 (by kernel_rfl) rfl)) rfl
              · exact owe_move rfl (wants_all rfl) (Or.inl rfl) (opnd_op 5 107 (by kernel_rfl) rfl) rfl
              · exact owe_move rfl (wants_if 6 108 rfl (by kernel_rfl) rfl) (Or.inl rfl) (opnd_slot 1 14 rfl (by kernel_rfl)) rfl
              · exact owe_bin rfl (wants_if 6 108 rfl (by kernel_rfl) rfl) rfl (opnd_op 7 109 (by kernel_rfl) rfl) (opnd_const _) rfl (fun ρ w h1 h2 => by exact run_gtr_int_t ρ _ _ _ w _ _ (by omega) h1 h2)
              · exact owe_move rfl (wants_if 6 108 rfl (by kernel_rfl) rfl) (Or.inl rfl) (opnd_op 8 110 (by kernel_rfl) rfl) rfl
              · exact owe_move rfl (wants_if 9 111 rfl (by kernel_rfl) rfl) (Or.inl rfl) (opnd_slot 0 13 rfl (by kernel_rfl)) rfl
              · exact owe_bin rfl (wants_if 9 111 rfl (by kernel_rfl) rfl) rfl (opnd_op 10 112 (by kernel_rfl) rfl) (opnd_const _) rfl (fun ρ w h1 h2 => by exact run_lss_u64_f ρ _ _ _ w _ _ (by omega) h1 h2)
              · exact owe_pick rfl (wants_if 6 108 rfl (by kernel_rfl) rfl) rfl (opnd_op 9 111 (by kernel_rfl) rfl) (fun _ => (opnd_op 11 113 (by kernel_rfl) rfl)) (fun h => nomatch h) rfl
              · exact owe_pick rfl (wants_all rfl) rfl (opnd_op 6 108 (by kernel_rfl) rfl) (fun h => nomatch h) (fun _ => (opnd_op 12 114 (by kernel_rfl) rfl)) rfl
            intro B9 a9 W9 S9
            replace S9 : Sta w 157 [(2, (.box 24 (Zx s p n c xs)))] [(115, (Is (.bool false))), (13, (Is (.int .u64 (tM A : Nat)))), (14, (Is (.int .i64 (tE A : Nat)))), (15, (Is (.bool (tI A)))), (0, TB)] B9 a9 W9 := S9
            refine wp_cond_false (S9.bool 0 115 rfl) ?_
            refine wp_skip ?_
            refine thenN ?_
            exact ⟨B9, S9.sub [0] [1, 2, 3]⟩
      · by_cases hA0 : 0 ≤ A
        · skip
          obtain ⟨f1, f2, f3, f4⟩ := root_facts hA0
          have f5 := sign_ge hA0
          refine wp_seq ?_
          refine wp_stmt_seq [.val (Is (.int .i64 (rtE (A)))),
      .val (Is (.bool true)),
      .val (Zx s p n c xs),
      .val (Is (.int .i64 (A).sign)),
      .val (Is (.bool true)),
      .val (Is (.bool false))] [.inr 0, .inr 1, .inr 2] [.inl 5, .inr 0, .inr 1, .inr 2, .inr 3, .inr 4] follows S6 rfl (by kernel_rfl) ?_ ?_
          · refine ⟨⟨⟨⟨⟨⟨trivial, ?_⟩, ?_⟩, ?_⟩, ?_⟩, ?_⟩, ?_⟩
            · exact owe_move rfl (wants_all rfl) (Or.inl rfl) (opnd_slot 0 10 rfl (by kernel_rfl)) rfl
            · exact owe_bin rfl (wants_all rfl) rfl (opnd_op 0 64 (by kernel_rfl) rfl) (opnd_const _) rfl (fun ρ w h1 h2 => by exact run_eql_errno_t ρ _ _ _ w _ _ f1 h1 h2)
            · exact owe_load rfl (wants_all rfl) rfl (k := 0) rfl (by kernel_rfl) (loads_of strct_int shp_zx) rfl
            · exact owe_call1 rfl (wants_all rfl) rfl (opnd_op 2 66 (by kernel_rfl) rfl) (fresh_is _) rfl (fun args w => by go_simp) (fun w u h1 => h_zsign (by omega) w u ((zx_zv' eA (Nat.le_refl _)) _ _ h1))
            · exact owe_bin rfl (wants_all rfl) rfl (opnd_op 3 67 (by kernel_rfl) rfl) (opnd_const _) rfl (fun ρ w h1 h2 => by exact run_geq_int_t ρ _ _ _ w _ _ f5 h1 h2)
            · exact owe_bin rfl (wants_all rfl) rfl (opnd_op 1 65 (by kernel_rfl) rfl) (opnd_op 4 68 (by kernel_rfl) rfl) rfl (fun ρ w h1 h2 => by rw [run_neq_bool ρ _ _ _ w _ _ h1 h2]; rfl)
          intro B7 a7 W7 S7
          replace S7 : Sta w 157 [(2, (.box 24 (Zx s p n c xs))), (8, (.box 24 ((ZN (Z)) w.heap.size))), (11, (.box 24 ((ZN (rtV (A))) w.heap.size)))] [(69, (Is (.bool false))), (10, (Is (.int .i64 (rtE (A))))), (58, (Is (.bool false))), (1, (Is (str l))), (1000001, TT), (0, TB)] B7 a7 W7 := S7
          refine wp_cond_false (S7.bool 0 69 rfl) ?_
          refine wp_skip ?_
          refine thenN ?_
          refine wp_stmt_seq [.val ((ZN (rtV (A))) w.heap.size),
      .val ((ZN (1)) w.heap.size),
      .val ((ZN ((rtV (A)) + 1)) w.heap.size),
      .new (.box 24 (Is (.agg #[.bool false, .slice none 0 0]))),
      .put (.inr 3) (.box 24 ((ZN ((rtV (A)) + 1)) w.heap.size))] [.inr 0, .inr 1, .inr 2, .inl 3] [.inr 0, .inr 1, .inr 2, .inr 3, .inr 4, .inr 5] follows S7 rfl (by kernel_rfl) ?_ ?_
          · refine ⟨⟨⟨⟨⟨trivial, ?_⟩, ?_⟩, ?_⟩, ?_⟩, ?_⟩
            · exact owe_load rfl (wants_all rfl) rfl (k := 2) rfl (by kernel_rfl) (loads_of strct_int shp_zn) rfl
            · exact owe_call1 rfl (wants_all rfl) rfl (opnd_const _) (fresh_zn _) rfl (fun args w => by go_simp) (g_zof (1) (by omega) (by omega))
            · exact owe_call2 rfl (wants_all rfl) rfl (opnd_op 0 70 (by kernel_rfl) rfl) (opnd_op 1 71 (by kernel_rfl) rfl) (fresh_zn _) rfl (fun args w => by go_simp) (fun w u v h1 h2 => g_zadd (by omega) (by omega) w u v ((zn_zv dR) _ _ h1) ((zn_zv d1) _ _ h2))
            · exact owe_new rfl (wants_all rfl) rfl rfl (fun ρ w => alloc_int ρ _ w)
            · exact owe_put 3 rfl (wants_all rfl) rfl (by kernel_rfl) rfl (opnd_op 2 72 (by kernel_rfl) rfl) (stores_of strct_int shp_z0 shp_zn) rfl
          intro B8 a8 W8 S8
          replace S8 : Sta w 157 [(2, (.box 24 (Zx s p n c xs))), (8, (.box 24 ((ZN (Z)) w.heap.size))), (11, (.box 24 ((ZN (rtV (A))) w.heap.size))), (12, (.box 24 ((ZN ((rtV (A)) + 1)) w.heap.size)))] [(69, (Is (.bool false))), (10, (Is (.int .i64 (rtE (A))))), (58, (Is (.bool false))), (1, (Is (str l))), (1000001, TT), (0, TB)] B8 a8 W8 := S8
          refine wp_seq_join _ tail6 ?_
          refine wp_stmt_seq [.val (Is (.int .i64 (rtE (A)))),
      .val (Is (.bool true)),
      .val (Is (.bool true)),
      .val ((ZN (rtV (A))) w.heap.size),
      .val (Is (.int .i64 (rtV (A)).sign)),
      .val (Is (.bool false)),
      .val (Is (.bool false)),
      .val ((ZN (rtV (A))) w.heap.size),
      .val ((ZN (rtV (A))) w.heap.size),
      .val ((ZN ((rtV (A)) * (rtV (A)))) w.heap.size),
      .val (Zx s p n c xs),
      .val (Is (.int .i64 (((rtV (A)) * (rtV (A))) - A).sign)),
      .val (Is (.bool false)),
      .val (Is (.bool false)),
      .val (Is (.bool false)),
      .val ((ZN ((rtV (A)) + 1)) w.heap.size),
      .val ((ZN ((rtV (A)) + 1)) w.heap.size),
      .val ((ZN (((rtV (A)) + 1) * ((rtV (A)) + 1))) w.heap.size),
      .val (Zx s p n c xs),
      .val (Is (.int .i64 ((((rtV (A)) + 1) * ((rtV (A)) + 1)) - A).sign)),
      .val (Is (.bool false)),
      .val (Is (.bool false)),
      .val (Is (.bool false))] [.inr 0, .inr 1, .inr 2, .inr 3] [.inl 22, .inr 0, .inr 1, .inr 2, .inr 3, .inr 4, .inr 5] follows S8 rfl (by kernel_rfl) ?_ ?_
          · refine ⟨⟨⟨⟨⟨⟨⟨⟨⟨⟨⟨⟨⟨⟨⟨⟨⟨⟨⟨⟨⟨⟨⟨trivial, ?_⟩, ?_⟩, ?_⟩, ?_⟩, ?_⟩, ?_⟩, ?_⟩, ?_⟩, ?_⟩, ?_⟩, ?_⟩, ?_⟩, ?_⟩, ?_⟩, ?_⟩, ?_⟩, ?_⟩, ?_⟩, ?_⟩, ?_⟩, ?_⟩, ?_⟩, ?_⟩
            · exact owe_move rfl (wants_all rfl) (Or.inl rfl) (opnd_slot 1 10 rfl (by kernel_rfl)) rfl
            · exact owe_bin rfl (wants_all rfl) rfl (opnd_op 0 73 (by kernel_rfl) rfl) (opnd_const _) rfl (fun ρ w h1 h2 => by exact run_eql_errno_t ρ _ _ _ w _ _ f1 h1 h2)
            · exact owe_move rfl (wants_all rfl) (Or.inl rfl) (opnd_op 1 74 (by kernel_rfl) rfl) rfl
            · exact owe_load rfl (wants_if 2 75 rfl (by kernel_rfl) rfl) rfl (k := 2) rfl (by kernel_rfl) (loads_of strct_int shp_zn) rfl
            · exact owe_call1 rfl (wants_if 2 75 rfl (by kernel_rfl) rfl) rfl (opnd_op 3 76 (by kernel_rfl) rfl) (fresh_is _) rfl (fun args w => by go_simp) (fun w u h1 => h_zsign (by omega) w u ((zn_zv dR) _ _ h1))
            · exact owe_bin rfl (wants_if 2 75 rfl (by kernel_rfl) rfl) rfl (opnd_op 4 77 (by kernel_rfl) rfl) (opnd_const _) rfl (fun ρ w h1 h2 => by exact run_lss_int_f ρ _ _ _ w _ _ f2 h1 h2)
            · exact owe_move rfl (wants_if 2 75 rfl (by kernel_rfl) rfl) (Or.inl rfl) (opnd_op 5 78 (by kernel_rfl) rfl) rfl
            · exact owe_load rfl (wants_if 6 79 rfl (by kernel_rfl) rfl) rfl (k := 2) rfl (by kernel_rfl) (loads_of strct_int shp_zn) rfl
            · exact owe_load rfl (wants_if 6 79 rfl (by kernel_rfl) rfl) rfl (k := 2) rfl (by kernel_rfl) (loads_of strct_int shp_zn) rfl
            · exact owe_call2 rfl (wants_if 6 79 rfl (by kernel_rfl) rfl) rfl (opnd_op 7 80 (by kernel_rfl) rfl) (opnd_op 8 81 (by kernel_rfl) rfl) (fresh_zn _) rfl (fun args w => by go_simp) (fun w u v h1 h2 => g_zmul (by omega) w u v ((zn_zv dR) _ _ h1) ((zn_zv dR) _ _ h2))
            · exact owe_load rfl (wants_if 6 79 rfl (by kernel_rfl) rfl) rfl (k := 0) rfl (by kernel_rfl) (loads_of strct_int shp_zx) rfl
            · exact owe_call2 rfl (wants_if 6 79 rfl (by kernel_rfl) rfl) rfl (opnd_op 9 82 (by kernel_rfl) rfl) (opnd_op 10 83 (by kernel_rfl) rfl) (fresh_is _) rfl (fun args w => by go_simp) (fun w u v h1 h2 => h_zcmp (by omega) (by omega) w u v ((zn_zv (dl_mul dR dR)) _ _ h1) ((zx_zv' eA (Nat.le_refl _)) _ _ h2))
            · exact owe_bin rfl (wants_if 6 79 rfl (by kernel_rfl) rfl) rfl (opnd_op 11 84 (by kernel_rfl) rfl) (opnd_const _) rfl (fun ρ w h1 h2 => by exact run_gtr_int_f ρ _ _ _ w _ _ f3 h1 h2)
            · exact owe_pick rfl (wants_if 2 75 rfl (by kernel_rfl) rfl) rfl (opnd_op 6 79 (by kernel_rfl) rfl) (fun h => nomatch h) (fun _ => (opnd_op 12 85 (by kernel_rfl) rfl)) rfl
            · exact owe_move rfl (wants_if 2 75 rfl (by kernel_rfl) rfl) (Or.inl rfl) (opnd_op 13 86 (by kernel_rfl) rfl) rfl
            · exact owe_load rfl (wants_if 14 87 rfl (by kernel_rfl) rfl) rfl (k := 3) rfl (by kernel_rfl) (loads_of strct_int shp_zn) rfl
            · exact owe_load rfl (wants_if 14 87 rfl (by kernel_rfl) rfl) rfl (k := 3) rfl (by kernel_rfl) (loads_of strct_int shp_zn) rfl
            · exact owe_call2 rfl (wants_if 14 87 rfl (by kernel_rfl) rfl) rfl (opnd_op 15 88 (by kernel_rfl) rfl) (opnd_op 16 89 (by kernel_rfl) rfl) (fresh_zn _) rfl (fun args w => by go_simp) (fun w u v h1 h2 => g_zmul (by omega) w u v ((zn_zv dR1) _ _ h1) ((zn_zv dR1) _ _ h2))
            · exact owe_load rfl (wants_if 14 87 rfl (by kernel_rfl) rfl) rfl (k := 0) rfl (by kernel_rfl) (loads_of strct_int shp_zx) rfl
            · exact owe_call2 rfl (wants_if 14 87 rfl (by kernel_rfl) rfl) rfl (opnd_op 17 90 (by kernel_rfl) rfl) (opnd_op 18 91 (by kernel_rfl) rfl) (fresh_is _) rfl (fun args w => by go_simp) (fun w u v h1 h2 => h_zcmp (by omega) (by omega) w u v ((zn_zv (dl_mul dR1 dR1)) _ _ h1) ((zx_zv' eA (Nat.le_refl _)) _ _ h2))
            · exact owe_bin rfl (wants_if 14 87 rfl (by kernel_rfl) rfl) rfl (opnd_op 19 92 (by kernel_rfl) rfl) (opnd_const _) rfl (fun ρ w h1 h2 => by exact run_leq_int_f ρ _ _ _ w _ _ f4 h1 h2)
            · exact owe_pick rfl (wants_if 2 75 rfl (by kernel_rfl) rfl) rfl (opnd_op 14 87 (by kernel_rfl) rfl) (fun h => nomatch h) (fun _ => (opnd_op 20 93 (by kernel_rfl) rfl)) rfl
            · exact owe_pick rfl (wants_all rfl) rfl (opnd_op 2 75 (by kernel_rfl) rfl) (fun _ => (opnd_op 21 94 (by kernel_rfl) rfl)) (fun h => nomatch h) rfl
          intro B9 a9 W9 S9
          replace S9 : Sta w 157 [(2, (.box 24 (Zx s p n c xs))), (8, (.box 24 ((ZN (Z)) w.heap.size))), (11, (.box 24 ((ZN (rtV (A))) w.heap.size))), (12, (.box 24 ((ZN ((rtV (A)) + 1)) w.heap.size)))] [(95, (Is (.bool false))), (69, (Is (.bool false))), (10, (Is (.int .i64 (rtE (A))))), (58, (Is (.bool false))), (1, (Is (str l))), (1000001, TT), (0, TB)] B9 a9 W9 := S9
          refine wp_cond_false (S9.bool 0 95 rfl) ?_
          refine wp_skip ?_
          refine thenN ?_
          exact ⟨B9, S9.sub [0] [6]⟩
        · skip
          obtain ⟨f1, f2⟩ := root_neg (A := A) (by omega)
          refine wp_seq ?_
          refine wp_stmt_seq [.val (Is (.int .i64 (rtE (A)))),
      .val (Is (.bool false)),
      .val (Zx s p n c xs),
      .val (Is (.int .i64 (A).sign)),
      .val (Is (.bool false)),
      .val (Is (.bool false))] [.inr 0, .inr 1, .inr 2] [.inl 5, .inr 0, .inr 1, .inr 2, .inr 3, .inr 4] follows S6 rfl (by kernel_rfl) ?_ ?_
          · refine ⟨⟨⟨⟨⟨⟨trivial, ?_⟩, ?_⟩, ?_⟩, ?_⟩, ?_⟩, ?_⟩
            · exact owe_move rfl (wants_all rfl) (Or.inl rfl) (opnd_slot 0 10 rfl (by kernel_rfl)) rfl
            · exact owe_bin rfl (wants_all rfl) rfl (opnd_op 0 64 (by kernel_rfl) rfl) (opnd_const _) rfl (fun ρ w h1 h2 => by exact run_eql_errno_f ρ _ _ _ w _ _ f1 h1 h2)
            · exact owe_load rfl (wants_all rfl) rfl (k := 0) rfl (by kernel_rfl) (loads_of strct_int shp_zx) rfl
            · exact owe_call1 rfl (wants_all rfl) rfl (opnd_op 2 66 (by kernel_rfl) rfl) (fresh_is _) rfl (fun args w => by go_simp) (fun w u h1 => h_zsign (by omega) w u ((zx_zv' eA (Nat.le_refl _)) _ _ h1))
            · exact owe_bin rfl (wants_all rfl) rfl (opnd_op 3 67 (by kernel_rfl) rfl) (opnd_const _) rfl (fun ρ w h1 h2 => by exact run_geq_int_f ρ _ _ _ w _ _ f2 h1 h2)
            · exact owe_bin rfl (wants_all rfl) rfl (opnd_op 1 65 (by kernel_rfl) rfl) (opnd_op 4 68 (by kernel_rfl) rfl) rfl (fun ρ w h1 h2 => by rw [run_neq_bool ρ _ _ _ w _ _ h1 h2]; rfl)
          intro B7 a7 W7 S7
          replace S7 : Sta w 157 [(2, (.box 24 (Zx s p n c xs))), (8, (.box 24 ((ZN (Z)) w.heap.size))), (11, (.box 24 ((ZN (rtV (A))) w.heap.size)))] [(69, (Is (.bool false))), (10, (Is (.int .i64 (rtE (A))))), (58, (Is (.bool false))), (1, (Is (str l))), (1000001, TT), (0, TB)] B7 a7 W7 := S7
          refine wp_cond_false (S7.bool 0 69 rfl) ?_
          refine wp_skip ?_
          refine thenN ?_
          refine wp_stmt_seq [.val ((ZN (rtV (A))) w.heap.size),
      .val ((ZN (1)) w.heap.size),
      .val ((ZN ((rtV (A)) + 1)) w.heap.size),
      .new (.box 24 (Is (.agg #[.bool false, .slice none 0 0]))),
      .put (.inr 3) (.box 24 ((ZN ((rtV (A)) + 1)) w.heap.size))] [.inr 0, .inr 1, .inr 2, .inl 3] [.inr 0, .inr 1, .inr 2, .inr 3, .inr 4, .inr 5] follows S7 rfl (by kernel_rfl) ?_ ?_
          · refine ⟨⟨⟨⟨⟨trivial, ?_⟩, ?_⟩, ?_⟩, ?_⟩, ?_⟩
            · exact owe_load rfl (wants_all rfl) rfl (k := 2) rfl (by kernel_rfl) (loads_of strct_int shp_zn) rfl
            · exact owe_call1 rfl (wants_all rfl) rfl (opnd_const _) (fresh_zn _) rfl (fun args w => by go_simp) (g_zof (1) (by omega) (by omega))
            · exact owe_call2 rfl (wants_all rfl) rfl (opnd_op 0 70 (by kernel_rfl) rfl) (opnd_op 1 71 (by kernel_rfl) rfl) (fresh_zn _) rfl (fun args w => by go_simp) (fun w u v h1 h2 => g_zadd (by omega) (by omega) w u v ((zn_zv dR) _ _ h1) ((zn_zv d1) _ _ h2))
            · exact owe_new rfl (wants_all rfl) rfl rfl (fun ρ w => alloc_int ρ _ w)
            · exact owe_put 3 rfl (wants_all rfl) rfl (by kernel_rfl) rfl (opnd_op 2 72 (by kernel_rfl) rfl) (stores_of strct_int shp_z0 shp_zn) rfl
          intro B8 a8 W8 S8
          replace S8 : Sta w 157 [(2, (.box 24 (Zx s p n c xs))), (8, (.box 24 ((ZN (Z)) w.heap.size))), (11, (.box 24 ((ZN (rtV (A))) w.heap.size))), (12, (.box 24 ((ZN ((rtV (A)) + 1)) w.heap.size)))] [(69, (Is (.bool false))), (10, (Is (.int .i64 (rtE (A))))), (58, (Is (.bool false))), (1, (Is (str l))), (1000001, TT), (0, TB)] B8 a8 W8 := S8
          refine wp_seq_join _ tail6 ?_
          refine wp_stmt_seq [.val (Is (.int .i64 (rtE (A)))),
      .val (Is (.bool false)),
      .val (Is (.bool false)),
      .off,
      .off,
      .off,
      .val (Is (undef)),
      .off,
      .off,
      .off,
      .off,
      .off,
      .off,
      .off,
      .val (Is (undef)),
      .off,
      .off,
      .off,
      .off,
      .off,
      .off,
      .off,
      .val (Is (.bool false))] [.inr 0, .inr 1, .inr 2, .inr 3] [.inl 22, .inr 0, .inr 1, .inr 2, .inr 3, .inr 4, .inr 5] follows S8 rfl (by kernel_rfl) ?_ ?_
          · refine ⟨⟨⟨⟨⟨⟨⟨⟨⟨⟨⟨⟨⟨⟨⟨⟨⟨⟨⟨⟨⟨⟨⟨trivial, ?_⟩, ?_⟩, ?_⟩, ?_⟩, ?_⟩, ?_⟩, ?_⟩, ?_⟩, ?_⟩, ?_⟩, ?_⟩, ?_⟩, ?_⟩, ?_⟩, ?_⟩, ?_⟩, ?_⟩, ?_⟩, ?_⟩, ?_⟩, ?_⟩, ?_⟩, ?_⟩
            · exact owe_move rfl (wants_all rfl) (Or.inl rfl) (opnd_slot 1 10 rfl (by kernel_rfl)) rfl
            · exact owe_bin rfl (wants_all rfl) rfl (opnd_op 0 73 (by kernel_rfl) rfl) (opnd_const _) rfl (fun ρ w h1 h2 => by exact run_eql_errno_f ρ _ _ _ w _ _ f1 h1 h2)
            · exact owe_move rfl (wants_all rfl) (Or.inl rfl) (opnd_op 1 74 (by kernel_rfl) rfl) rfl
            · exact owe_off 2 75 rfl rfl rfl (by kernel_rfl) rfl (by decide)
            · exact owe_off 2 75 rfl rfl rfl (by kernel_rfl) rfl (by decide)
            · exact owe_off 2 75 rfl rfl rfl (by kernel_rfl) rfl (by decide)
            · exact owe_offv 2 75 rfl rfl rfl (by kernel_rfl) rfl (by decide)
            · exact owe_offu 6 79 rfl rfl rfl (by kernel_rfl) rfl
            · exact owe_offu 6 79 rfl rfl rfl (by kernel_rfl) rfl
            · exact owe_offu 6 79 rfl rfl rfl (by kernel_rfl) rfl
            · exact owe_offu 6 79 rfl rfl rfl (by kernel_rfl) rfl
            · exact owe_offu 6 79 rfl rfl rfl (by kernel_rfl) rfl
            · exact owe_offu 6 79 rfl rfl rfl (by kernel_rfl) rfl
            · exact owe_off 2 75 rfl rfl rfl (by kernel_rfl) rfl (by decide)
            · exact owe_offv 2 75 rfl rfl rfl (by kernel_rfl) rfl (by decide)
            · exact owe_offu 14 87 rfl rfl rfl (by kernel_rfl) rfl
            · exact owe_offu 14 87 rfl rfl rfl (by kernel_rfl) rfl
            · exact owe_offu 14 87 rfl rfl rfl (by kernel_rfl) rfl
            · exact owe_offu 14 87 rfl rfl rfl (by kernel_rfl) rfl
            · exact owe_offu 14 87 rfl rfl rfl (by kernel_rfl) rfl
            · exact owe_offu 14 87 rfl rfl rfl (by kernel_rfl) rfl
            · exact owe_off 2 75 rfl rfl rfl (by kernel_rfl) rfl (by decide)
            · exact owe_pick rfl (wants_all rfl) rfl (opnd_op 2 75 (by kernel_rfl) rfl) (fun h => nomatch h) (fun _ => (opnd_const _)) rfl
          intro B9 a9 W9 S9
          replace S9 : Sta w 157 [(2, (.box 24 (Zx s p n c xs))), (8, (.box 24 ((ZN (Z)) w.heap.size))), (11, (.box 24 ((ZN (rtV (A))) w.heap.size))), (12, (.box 24 ((ZN ((rtV (A)) + 1)) w.heap.size)))] [(95, (Is (.bool false))), (69, (Is (.bool false))), (10, (Is (.int .i64 (rtE (A))))), (58, (Is (.bool false))), (1, (Is (str l))), (1000001, TT), (0, TB)] B9 a9 W9 := S9
          refine wp_cond_false (S9.bool 0 95 rfl) ?_
          refine wp_skip ?_
          refine thenN ?_
          exact ⟨B9, S9.sub [0] [6]⟩
  · by_cases hbl : Go.bitLen A.natAbs < 10000
    · skip
      have hlen : (txZ A).length ≤ 65536 := by have := txZ_bl hbl; omega
      refine wp_stmt_seq [.val (Zx s p n c xs),
      .val (Is (.int .i64 (Go.bitLen (A).natAbs : Nat))),
      .val (Is (.bool true))] [.inr 0] [.inl 2, .inr 0, .inr 1, .inr 2, .inr 3, .inr 4] follows S2 rfl (by kernel_rfl) ?_ ?_
      · refine ⟨⟨⟨trivial, ?_⟩, ?_⟩, ?_⟩
        · exact owe_load rfl (wants_all rfl) rfl (k := 0) rfl (by kernel_rfl) (loads_of strct_int shp_zx) rfl
        · exact owe_call1 rfl (wants_all rfl) rfl (opnd_op 0 22 (by kernel_rfl) rfl) (fresh_is _) rfl (fun args w => by go_simp) (fun w u h1 => g_zbits (by omega) w u ((zx_zv' eA (Nat.le_refl _)) _ _ h1))
        · exact owe_bin rfl (wants_all rfl) rfl (opnd_op 1 23 (by kernel_rfl) rfl) (opnd_const _) rfl (fun ρ w h1 h2 => by exact run_lss_int_t ρ _ _ _ w _ _ (by omega) h1 h2)
      intro B3 a3 W3 S3
      replace S3 : Sta w 157 [(2, (.box 24 (Zx s p n c xs)))] [(24, (Is (.bool true))), (21, (Is (.bool false))), (4, (Is (.bool false))), (1, (Is (str l))), (1000001, TT), (0, TB)] B3 a3 W3 := S3
      refine wp_cond_true (S3.bool 0 24 rfl) ?_
      refine wp_stmt_seq [.val (Zx s p n c xs),
      .val (Is (str (txZ (A)))),
      .val ((THREE (ZN (A)) (IS (.int .i64 0)) (IS (.int .i64 0))) w.heap.size),
      .val ((THREE (ZN (A)) (IS (.int .i64 0)) (IS (.int .i64 0))) w.heap.size),
      .val ((ZN (A)) w.heap.size),
      .val (Is (.int .i64 0)),
      .val (Is (.int .i64 0)),
      .new (.box 24 (Is (.agg #[.bool false, .slice none 0 0]))),
      .put (.inr 7) (.box 24 ((ZN (A)) w.heap.size)),
      .val (Is (.int .i64 0)),
      .val (Is (.int .i64 0))] [.inr 0, .inl 7] [.inl 9, .inl 10, .inr 0, .inr 1, .inr 2, .inr 3, .inr 4, .inr 5] follows S3 rfl (by kernel_rfl) ?_ ?_
      · refine ⟨⟨⟨⟨⟨⟨⟨⟨⟨⟨⟨trivial, ?_⟩, ?_⟩, ?_⟩, ?_⟩, ?_⟩, ?_⟩, ?_⟩, ?_⟩, ?_⟩, ?_⟩, ?_⟩
        · exact owe_load rfl (wants_all rfl) rfl (k := 0) rfl (by kernel_rfl) (loads_of strct_int shp_zx) rfl
        · exact owe_callh1 rfl (wants_all rfl) rfl (opnd_tp ((opnd_op 0 26 (by kernel_rfl) rfl).imp (zx_zv' eA (Nat.le_refl _))) (opnd_slot 4 1000001 rfl (by kernel_rfl))) (fresh_is _) rfl (fun args w => by go_simp) (fun w u h => h_ztext (by omega) w u (tp_out h).2 (tp_out h).1.now)
        · exact owe_callh1 rfl (wants_all rfl) rfl (opnd_op 1 27 (by kernel_rfl) rfl) (fresh_three (fresh_zn _) (fresh_is _) (fresh_is _)) rfl (fun args w => by go_simp) (fun w u h => h_zread (txt_rd hlen) w u h.now)
        · exact owe_move rfl (wants_all rfl) (Or.inl rfl) (opnd_op 2 28 (by kernel_rfl) rfl) rfl
        · exact owe_ext3 rfl (wants_all rfl) rfl (opnd_op 3 25 (by kernel_rfl) rfl) (Or.inl ⟨rfl, rfl⟩) rfl
        · exact owe_ext3 rfl (wants_all rfl) rfl (opnd_op 3 25 (by kernel_rfl) rfl) (Or.inr (Or.inl ⟨rfl, rfl⟩)) rfl
        · exact owe_ext3 rfl (wants_all rfl) rfl (opnd_op 3 25 (by kernel_rfl) rfl) (Or.inr (Or.inr ⟨rfl, rfl⟩)) rfl
        · exact owe_new rfl (wants_all rfl) rfl rfl (fun ρ w => alloc_int ρ _ w)
        · exact owe_put 7 rfl (wants_all rfl) rfl (by kernel_rfl) rfl (opnd_op 4 29 (by kernel_rfl) rfl) (stores_of strct_int shp_z0 shp_zn) rfl
        · exact owe_move rfl (wants_all rfl) (Or.inr rfl) (opnd_op 5 30 (by kernel_rfl) rfl) rfl
        · exact owe_move rfl (wants_all rfl) (Or.inr rfl) (opnd_op 6 31 (by kernel_rfl) rfl) rfl
      intro B4 a4 W4 S4
      replace S4 : Sta w 157 [(2, (.box 24 (Zx s p n c xs))), (5, (.box 24 ((ZN (A)) w.heap.size)))] [(6, (Is (.int .i64 0))), (7, (Is (.int .i64 0))), (24, (Is (.bool true))), (21, (Is (.bool false))), (4, (Is (.bool false))), (1, (Is (str l))), (1000001, TT), (0, TB)] B4 a4 W4 := S4
      refine wp_stmt_seq [.val (Is (.int .i64 0)),
      .val (Is (.bool false)),
      .val (Is (.bool false)),
      .val (Is (.int .i64 0)),
      .val (Is (.bool false)),
      .val (Is (.bool false)),
      .val (Is (.bool false)),
      .val ((ZN (A)) w.heap.size),
      .val (Zx s p n c xs),
      .val ((ZN (A)) w.heap.size),
      .val (Is (.bool true)),
      .val (Is (.bool false)),
      .val (Is (.bool false))] [.inr 0, .inr 1] [.inl 12, .inr 2, .inr 3, .inr 4, .inr 5, .inr 6, .inr 7] follows S4 rfl (by kernel_rfl) ?_ ?_
      · refine ⟨⟨⟨⟨⟨⟨⟨⟨⟨⟨⟨⟨⟨trivial, ?_⟩, ?_⟩, ?_⟩, ?_⟩, ?_⟩, ?_⟩, ?_⟩, ?_⟩, ?_⟩, ?_⟩, ?_⟩, ?_⟩, ?_⟩
        · exact owe_move rfl (wants_all rfl) (Or.inl rfl) (opnd_slot 1 7 rfl (by kernel_rfl)) rfl
        · exact owe_bin rfl (wants_all rfl) rfl (opnd_op 0 32 (by kernel_rfl) rfl) (opnd_const _) rfl (fun ρ w h1 h2 => by exact run_neq_errno_f ρ _ _ _ w _ _ rfl h1 h2)
        · exact owe_move rfl (wants_all rfl) (Or.inl rfl) (opnd_op 1 33 (by kernel_rfl) rfl) rfl
        · exact owe_move rfl (wants_if 2 34 rfl (by kernel_rfl) rfl) (Or.inl rfl) (opnd_slot 0 6 rfl (by kernel_rfl)) rfl
        · exact owe_bin rfl (wants_if 2 34 rfl (by kernel_rfl) rfl) rfl (opnd_op 3 35 (by kernel_rfl) rfl) (opnd_const _) rfl (fun ρ w h1 h2 => by exact run_neq_int_f ρ _ _ _ w _ _ rfl h1 h2)
        · exact owe_pick rfl (wants_all rfl) rfl (opnd_op 2 34 (by kernel_rfl) rfl) (fun h => nomatch h) (fun _ => (opnd_op 4 36 (by kernel_rfl) rfl)) rfl
        · exact owe_move rfl (wants_all rfl) (Or.inl rfl) (opnd_op 5 37 (by kernel_rfl) rfl) rfl
        · exact owe_load rfl (wants_if 6 38 rfl (by kernel_rfl) rfl) rfl (k := 1) rfl (by kernel_rfl) (loads_of strct_int shp_zn) rfl
        · exact owe_load rfl (wants_if 6 38 rfl (by kernel_rfl) rfl) rfl (k := 0) rfl (by kernel_rfl) (loads_of strct_int shp_zx) rfl
        · exact owe_call1 rfl (wants_if 6 38 rfl (by kernel_rfl) rfl) rfl (opnd_op 8 40 (by kernel_rfl) rfl) (fresh_zn _) rfl (fun args w => by go_simp) (fun w u h1 => h_zform (by omega) w u ((zx_zv' eA (Nat.le_refl _)) _ _ h1))
        · exact owe_call2 rfl (wants_if 6 38 rfl (by kernel_rfl) rfl) rfl (opnd_op 7 39 (by kernel_rfl) rfl) (opnd_op 9 41 (by kernel_rfl) rfl) (fresh_is _) rfl (fun args w => by go_simp) g_eq
        · exact owe_un (x := .tmp 42) rfl (wants_if 6 38 rfl (by kernel_rfl) rfl) rfl (opnd_op 10 42 (by kernel_rfl) rfl) rfl (fun ρ w h1 => run_not ρ _ _ w _ h1)
        · exact owe_pick rfl (wants_all rfl) rfl (opnd_op 6 38 (by kernel_rfl) rfl) (fun h => nomatch h) (fun _ => (opnd_op 11 43 (by kernel_rfl) rfl)) rfl
      intro B5 a5 W5 S5
      replace S5 : Sta w 157 [(2, (.box 24 (Zx s p n c xs))), (5, (.box 24 ((ZN (A)) w.heap.size)))] [(44, (Is (.bool false))), (24, (Is (.bool true))), (21, (Is (.bool false))), (4, (Is (.bool false))), (1, (Is (str l))), (1000001, TT), (0, TB)] B5 a5 W5 := S5
      refine wp_cond_false (S5.bool 0 44 rfl) ?_
      refine wp_skip ?_
      refine thenN ?_
      exact ⟨B5, S5.sub [0] [4, 5, 6]⟩
    · skip
      refine wp_stmt_seq [.val (Zx s p n c xs),
      .val (Is (.int .i64 (Go.bitLen (A).natAbs : Nat))),
      .val (Is (.bool false))] [.inr 0] [.inl 2, .inr 0, .inr 1, .inr 2, .inr 3, .inr 4] follows S2 rfl (by kernel_rfl) ?_ ?_
      · refine ⟨⟨⟨trivial, ?_⟩, ?_⟩, ?_⟩
        · exact owe_load rfl (wants_all rfl) rfl (k := 0) rfl (by kernel_rfl) (loads_of strct_int shp_zx) rfl
        · exact owe_call1 rfl (wants_all rfl) rfl (opnd_op 0 22 (by kernel_rfl) rfl) (fresh_is _) rfl (fun args w => by go_simp) (fun w u h1 => g_zbits (by omega) w u ((zx_zv' eA (Nat.le_refl _)) _ _ h1))
        · exact owe_bin rfl (wants_all rfl) rfl (opnd_op 1 23 (by kernel_rfl) rfl) (opnd_const _) rfl (fun ρ w h1 h2 => by exact run_lss_int_f ρ _ _ _ w _ _ (by omega) h1 h2)
      intro B3 a3 W3 S3
      replace S3 : Sta w 157 [(2, (.box 24 (Zx s p n c xs)))] [(24, (Is (.bool false))), (21, (Is (.bool false))), (4, (Is (.bool false))), (1, (Is (str l))), (1000001, TT), (0, TB)] B3 a3 W3 := S3
      refine wp_cond_false (S3.bool 0 24 rfl) ?_
      refine wp_skip ?_
      refine thenN ?_
      exact ⟨B3, S3.sub [0] [3, 4, 5]⟩

theorem zintback_walk (w : World) (s : Bool) (p : Option Addr) (n c : Nat) (xs : List Nat) (t : ByteArray) (h : Sl w p n c xs) (b0 : c ≤ 1048576) (b1 : t.size ≤ 1048576) (ht : Tab w ∧ T32 w) :
    Calls Tryd.prog 4 #[.agg #[.bool s, .slice p n c], .string t] w fun e w' => e = .returned (.bool true) ∧ Below w.heap.size w w' := by
  have q0 := h.cap
  obtain ⟨Z, A, E, hR⟩ := rd_some t.data.toList
  have e : Value.string t = str t.data.toList := by unfold str; simp
  rw [e]
  refine (zintback_w w s p n c xs h _ rfl (by omega) _ Z E A hR (rd_dl hR) ht.1 ht.2).mono ?_
  rintro e w' ⟨v, rfl, hb, hv⟩
  obtain rfl : v = _ := hv
  exact ⟨rfl, hb⟩
end Go.Proofs.YtoplejeljmpcpaaDoor
