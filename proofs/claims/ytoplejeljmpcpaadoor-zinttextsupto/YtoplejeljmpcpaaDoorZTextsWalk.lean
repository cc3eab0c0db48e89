/-
  ZintTexts' walk: it returns true and writes nothing that was there.
-/
import Derived.Test.YtoplejeljmpcpaaDoorRRead
import Derived.Test.YtoplejeljmpcpaaDoorZText
import Derived.Test.YtoplejeljmpcpaaDoorZLaw
namespace Go.Proofs.YtoplejeljmpcpaaDoor
open Go Go.RowKit Nt
set_option linter.unusedSimpArgs false
set_option linter.unusedVariables false
set_option maxRecDepth 20000

set_option maxHeartbeats 4000000 in
theorem zinttexts_w (w : World) (s : Bool) (p : Option Addr) (n c : Nat) (xs : List Nat) (h : Sl w p n c xs) (hn : n ≤ 1048576) (hc : c ≤ 35184372087808) (l : List UInt8) (Z E0 : Int) (A0 : Nat) (hR : RdIs l Z A0 E0) (hT : Tab w) :
    Calls Tryd.prog 3 #[.agg #[.bool s, .slice p n c], str l] w (Gives (IS (.bool true)) w) := by
  refine calls_sta (sl := [(0, (Zx s p n c xs)), (1, (Is (str l)))]) Tryd.func3 rfl Tryd.ntmps3 (by simp) (args_cons rfl (zx_has h) (args_cons rfl (is_has _) args_nil)) ?_
  intro a0 S0
  replace S0 : Sta w 42 [] [(0, (Zx s p n c xs)), (1, (Is (str l))), (1000001, TT)] (fun _ => False) a0 w := S0.moreT 1000001 (tt_has hT)
  refine wp_stmt_seq [.new (.box 24 (Zx s p n c xs)),
      .val (Is (.bool false))] [.inl 0] [.inl 1, .inr 1, .inr 2] follows S0 rfl (by kernel_rfl) ?_ ?_
  · refine ⟨⟨trivial, ?_⟩, ?_⟩
    · exact owe_box rfl (wants_all rfl) rfl (opnd_slot 0 0 rfl (by kernel_rfl)) rfl (fun ρ w h => box_int shp_zx ρ _ _ w h)
    · exact owe_move rfl (wants_all rfl) (Or.inr rfl) (opnd_const _) rfl
  intro B1 a1 W1 S1
  replace S1 : Sta w 42 [(2, (.box 24 (Zx s p n c xs)))] [(4, (Is (.bool false))), (1, (Is (str l))), (1000001, TT)] B1 a1 W1 := S1
  refine wp_seq ?_
  refine wp_stmt_seq [.val (Zx s p n c xs),
      .val ((ZO s n xs) w.heap.size),
      .val (Is (str (txZ (sg s (val xs))))),
      .val (Zx s p n c xs),
      .val (Is (str (txZ (sg s (val xs))))),
      .val (Is (.bool false))] [.inr 0] [.inl 5, .inr 0, .inr 1, .inr 2] follows S1 rfl (by kernel_rfl) ?_ ?_
  · refine ⟨⟨⟨⟨⟨⟨trivial, ?_⟩, ?_⟩, ?_⟩, ?_⟩, ?_⟩, ?_⟩
    · exact owe_load rfl (wants_all rfl) rfl (k := 0) rfl (by kernel_rfl) (loads_of strct_int shp_zx) rfl
    · exact owe_call1 rfl (wants_all rfl) rfl (opnd_op 0 11 (by kernel_rfl) rfl) (fresh_zo _ _ _) rfl (fun args w => by go_simp) (g_own hc)
    · exact owe_callh1 rfl (wants_all rfl) rfl (opnd_tp ((opnd_op 1 12 (by kernel_rfl) rfl).imp (zo_zv rfl (Nat.le_refl _))) (opnd_slot 2 1000001 rfl (by kernel_rfl))) (fresh_is _) rfl (fun args w => by go_simp) (fun w u h => h_ztext (by omega) w u (tp_out h).2 (tp_out h).1.now)
    · exact owe_load rfl (wants_all rfl) rfl (k := 0) rfl (by kernel_rfl) (loads_of strct_int shp_zx) rfl
    · exact owe_callh1 rfl (wants_all rfl) rfl ((opnd_op 3 14 (by kernel_rfl) rfl).imp (zx_zv' rfl (Nat.le_refl _))) (fresh_is _) rfl (fun args w => by go_simp) (fun w u h => h_rztext (by omega) w u h.now)
    · exact owe_bin rfl (wants_all rfl) rfl (opnd_op 2 13 (by kernel_rfl) rfl) (opnd_op 4 15 (by kernel_rfl) rfl) rfl (fun ρ w h1 h2 => by exact run_neq_string_f ρ _ _ _ w _ _ rfl h1 h2)
  intro B2 a2 W2 S2
  replace S2 : Sta w 42 [(2, (.box 24 (Zx s p n c xs)))] [(16, (Is (.bool false))), (4, (Is (.bool false))), (1, (Is (str l))), (1000001, TT)] B2 a2 W2 := S2
  refine wp_cond_false (S2.bool 0 16 rfl) ?_
  refine wp_skip ?_
  refine thenN ?_
  refine wp_stmt_seq [.val (Is (str l)),
      .val ((THREE (ZN (Z)) (IS (.int .i64 (A0 : Nat))) (IS (.int .i64 E0))) w.heap.size),
      .val ((THREE (ZN (Z)) (IS (.int .i64 (A0 : Nat))) (IS (.int .i64 E0))) w.heap.size),
      .val ((ZN (Z)) w.heap.size),
      .val (Is (.int .i64 (A0 : Nat))),
      .val (Is (.int .i64 E0)),
      .new (.box 24 (Is (.agg #[.bool false, .slice none 0 0]))),
      .put (.inr 6) (.box 24 ((ZN (Z)) w.heap.size)),
      .val (Is (.int .i64 (A0 : Nat))),
      .val (Is (.int .i64 E0))] [.inr 0, .inl 6] [.inl 8, .inl 9, .inr 0, .inr 1, .inr 2, .inr 3] follows S2 rfl (by kernel_rfl) ?_ ?_
  · refine ⟨⟨⟨⟨⟨⟨⟨⟨⟨⟨trivial, ?_⟩, ?_⟩, ?_⟩, ?_⟩, ?_⟩, ?_⟩, ?_⟩, ?_⟩, ?_⟩, ?_⟩
    · exact owe_move rfl (wants_all rfl) (Or.inl rfl) (opnd_slot 2 1 rfl (by kernel_rfl)) rfl
    · exact owe_callh1 rfl (wants_all rfl) rfl (opnd_op 0 18 (by kernel_rfl) rfl) (fresh_three (fresh_zn _) (fresh_is _) (fresh_is _)) rfl (fun args w => by go_simp) (fun w u h => h_zread hR w u h.now)
    · exact owe_move rfl (wants_all rfl) (Or.inl rfl) (opnd_op 1 19 (by kernel_rfl) rfl) rfl
    · exact owe_ext3 rfl (wants_all rfl) rfl (opnd_op 2 17 (by kernel_rfl) rfl) (Or.inl ⟨rfl, rfl⟩) rfl
    · exact owe_ext3 rfl (wants_all rfl) rfl (opnd_op 2 17 (by kernel_rfl) rfl) (Or.inr (Or.inl ⟨rfl, rfl⟩)) rfl
    · exact owe_ext3 rfl (wants_all rfl) rfl (opnd_op 2 17 (by kernel_rfl) rfl) (Or.inr (Or.inr ⟨rfl, rfl⟩)) rfl
    · exact owe_new rfl (wants_all rfl) rfl rfl (fun ρ w => alloc_int ρ _ w)
    · exact owe_put 6 rfl (wants_all rfl) rfl (by kernel_rfl) rfl (opnd_op 3 20 (by kernel_rfl) rfl) (stores_of strct_int shp_z0 shp_zn) rfl
    · exact owe_move rfl (wants_all rfl) (Or.inr rfl) (opnd_op 4 21 (by kernel_rfl) rfl) rfl
    · exact owe_move rfl (wants_all rfl) (Or.inr rfl) (opnd_op 5 22 (by kernel_rfl) rfl) rfl
  intro B3 a3 W3 S3
  replace S3 : Sta w 42 [(2, (.box 24 (Zx s p n c xs))), (5, (.box 24 ((ZN (Z)) w.heap.size)))] [(6, (Is (.int .i64 (A0 : Nat)))), (7, (Is (.int .i64 E0))), (16, (Is (.bool false))), (4, (Is (.bool false))), (1, (Is (str l))), (1000001, TT)] B3 a3 W3 := S3
  refine wp_stmt_seq [.val (Is (str l)),
      .val ((THREE (ZN (Z)) (IS (.int .i64 (A0 : Nat))) (IS (.int .i64 E0))) w.heap.size),
      .val ((THREE (ZN (Z)) (IS (.int .i64 (A0 : Nat))) (IS (.int .i64 E0))) w.heap.size),
      .val ((ZN (Z)) w.heap.size),
      .val (Is (.int .i64 (A0 : Nat))),
      .val (Is (.int .i64 E0)),
      .new (.box 24 (Is (.agg #[.bool false, .slice none 0 0]))),
      .put (.inr 6) (.box 24 ((ZN (Z)) w.heap.size)),
      .val (Is (.int .i64 (A0 : Nat))),
      .val (Is (.int .i64 E0))] [.inr 0, .inr 1, .inl 6] [.inl 8, .inl 9, .inr 0, .inr 1, .inr 2, .inr 3, .inr 4, .inr 5] follows S3 rfl (by kernel_rfl) ?_ ?_
  · refine ⟨⟨⟨⟨⟨⟨⟨⟨⟨⟨trivial, ?_⟩, ?_⟩, ?_⟩, ?_⟩, ?_⟩, ?_⟩, ?_⟩, ?_⟩, ?_⟩, ?_⟩
    · exact owe_move rfl (wants_all rfl) (Or.inl rfl) (opnd_slot 4 1 rfl (by kernel_rfl)) rfl
    · exact owe_callh1 rfl (wants_all rfl) rfl (opnd_op 0 24 (by kernel_rfl) rfl) (fresh_three (fresh_zn _) (fresh_is _) (fresh_is _)) rfl (fun args w => by go_simp) (fun w u h => h_rzread hR w u h.now)
    · exact owe_move rfl (wants_all rfl) (Or.inl rfl) (opnd_op 1 25 (by kernel_rfl) rfl) rfl
    · exact owe_ext3 rfl (wants_all rfl) rfl (opnd_op 2 23 (by kernel_rfl) rfl) (Or.inl ⟨rfl, rfl⟩) rfl
    · exact owe_ext3 rfl (wants_all rfl) rfl (opnd_op 2 23 (by kernel_rfl) rfl) (Or.inr (Or.inl ⟨rfl, rfl⟩)) rfl
    · exact owe_ext3 rfl (wants_all rfl) rfl (opnd_op 2 23 (by kernel_rfl) rfl) (Or.inr (Or.inr ⟨rfl, rfl⟩)) rfl
    · exact owe_new rfl (wants_all rfl) rfl rfl (fun ρ w => alloc_int ρ _ w)
    · exact owe_put 6 rfl (wants_all rfl) rfl (by kernel_rfl) rfl (opnd_op 3 26 (by kernel_rfl) rfl) (stores_of strct_int shp_z0 shp_zn) rfl
    · exact owe_move rfl (wants_all rfl) (Or.inr rfl) (opnd_op 4 27 (by kernel_rfl) rfl) rfl
    · exact owe_move rfl (wants_all rfl) (Or.inr rfl) (opnd_op 5 28 (by kernel_rfl) rfl) rfl
  intro B4 a4 W4 S4
  replace S4 : Sta w 42 [(2, (.box 24 (Zx s p n c xs))), (5, (.box 24 ((ZN (Z)) w.heap.size))), (8, (.box 24 ((ZN (Z)) w.heap.size)))] [(9, (Is (.int .i64 (A0 : Nat)))), (10, (Is (.int .i64 E0))), (6, (Is (.int .i64 (A0 : Nat)))), (7, (Is (.int .i64 E0))), (16, (Is (.bool false))), (4, (Is (.bool false))), (1, (Is (str l))), (1000001, TT)] B4 a4 W4 := S4
  refine wp_stmt_seq [.val (Is (.int .i64 E0)),
      .val (Is (.int .i64 E0)),
      .val (Is (.bool true)),
      .val (Is (.bool true)),
      .val (Is (.int .i64 (A0 : Nat))),
      .val (Is (.int .i64 (A0 : Nat))),
      .val (Is (.bool true)),
      .val (Is (.bool true)),
      .val (Is (.bool true)),
      .val ((ZN (Z)) w.heap.size),
      .val ((ZN (Z)) w.heap.size),
      .val (Is (.bool true)),
      .val (Is (.bool true)),
      .val (Is (.bool true))] [.inr 0, .inr 1, .inr 2] [.inl 13, .inr 4, .inr 6, .inr 7] follows S4 rfl (by kernel_rfl) ?_ ?_
  · refine ⟨⟨⟨⟨⟨⟨⟨⟨⟨⟨⟨⟨⟨⟨trivial, ?_⟩, ?_⟩, ?_⟩, ?_⟩, ?_⟩, ?_⟩, ?_⟩, ?_⟩, ?_⟩, ?_⟩, ?_⟩, ?_⟩, ?_⟩, ?_⟩
    · exact owe_move rfl (wants_all rfl) (Or.inl rfl) (opnd_slot 3 7 rfl (by kernel_rfl)) rfl
    · exact owe_move rfl (wants_all rfl) (Or.inl rfl) (opnd_slot 1 10 rfl (by kernel_rfl)) rfl
    · exact owe_bin rfl (wants_all rfl) rfl (opnd_op 0 29 (by kernel_rfl) rfl) (opnd_op 1 30 (by kernel_rfl) rfl) rfl (fun ρ w h1 h2 => by exact run_eql_int_t ρ _ _ _ w _ _ rfl h1 h2)
    · exact owe_move rfl (wants_all rfl) (Or.inl rfl) (opnd_op 2 31 (by kernel_rfl) rfl) rfl
    · exact owe_move rfl (wants_if 3 32 rfl (by kernel_rfl) rfl) (Or.inl rfl) (opnd_slot 2 6 rfl (by kernel_rfl)) rfl
    · exact owe_move rfl (wants_if 3 32 rfl (by kernel_rfl) rfl) (Or.inl rfl) (opnd_slot 0 9 rfl (by kernel_rfl)) rfl
    · exact owe_bin rfl (wants_if 3 32 rfl (by kernel_rfl) rfl) rfl (opnd_op 4 33 (by kernel_rfl) rfl) (opnd_op 5 34 (by kernel_rfl) rfl) rfl (fun ρ w h1 h2 => by exact run_eql_int_t ρ _ _ _ w _ _ rfl h1 h2)
    · exact owe_pick rfl (wants_all rfl) rfl (opnd_op 3 32 (by kernel_rfl) rfl) (fun _ => (opnd_op 6 35 (by kernel_rfl) rfl)) (fun h => nomatch h) rfl
    · exact owe_move rfl (wants_all rfl) (Or.inl rfl) (opnd_op 7 36 (by kernel_rfl) rfl) rfl
    · exact owe_load rfl (wants_if 8 37 rfl (by kernel_rfl) rfl) rfl (k := 1) rfl (by kernel_rfl) (loads_of strct_int shp_zn) rfl
    · exact owe_load rfl (wants_if 8 37 rfl (by kernel_rfl) rfl) rfl (k := 2) rfl (by kernel_rfl) (loads_of strct_int shp_zn) rfl
    · exact owe_call2 rfl (wants_if 8 37 rfl (by kernel_rfl) rfl) rfl (opnd_op 9 38 (by kernel_rfl) rfl) (opnd_op 10 39 (by kernel_rfl) rfl) (fresh_is _) rfl (fun args w => by go_simp) g_eq
    · exact owe_pick rfl (wants_all rfl) rfl (opnd_op 8 37 (by kernel_rfl) rfl) (fun _ => (opnd_op 11 40 (by kernel_rfl) rfl)) (fun h => nomatch h) rfl
    · exact owe_move rfl (wants_all rfl) (Or.inr rfl) (opnd_op 12 41 (by kernel_rfl) rfl) rfl
  intro B5 a5 W5 S5
  replace S5 : Sta w 42 [(2, (.box 24 (Zx s p n c xs))), (5, (.box 24 ((ZN (Z)) w.heap.size))), (8, (.box 24 ((ZN (Z)) w.heap.size)))] [(4, (Is (.bool true))), (16, (Is (.bool false))), (1, (Is (str l))), (1000001, TT)] B5 a5 W5 := S5
  refine wp_ret ?_
  exact end_one S5 rfl (res_tmp S5 0 4 rfl)

theorem zinttexts_walk (w : World) (s : Bool) (p : Option Addr) (n c : Nat) (xs : List Nat) (t : ByteArray) (h : Sl w p n c xs) (b0 : c ≤ 1048576) (b1 : t.size ≤ 1048576) (ht : Tab w) :
    Calls Tryd.prog 3 #[.agg #[.bool s, .slice p n c], .string t] w fun e w' => e = .returned (.bool true) ∧ Below w.heap.size w w' := by
  have q0 := h.cap
  obtain ⟨Z, A, E, hR⟩ := rd_some t.data.toList
  have e : Value.string t = str t.data.toList := by unfold str; simp
  rw [e]
  refine (zinttexts_w w s p n c xs h (by omega) (by omega) _ Z E A hR ht).mono ?_
  rintro e w' ⟨v, rfl, hb, hv⟩
  obtain rfl : v = _ := hv
  exact ⟨rfl, hb⟩
end Go.Proofs.YtoplejeljmpcpaaDoor
