/-
  MatLine's walk: it returns true and writes nothing that was there.
-/
import Derived.Test.YtdhjgekbocnnkaaDoorMLineMath
import Derived.Test.YtdhjgekbocnnkaaDoorSetS
import Derived.Test.YtdhjgekbocnnkaaDoorMOrd
import Derived.Test.YtdhjgekbocnnkaaDoorSetV
namespace Go.Proofs.YtdhjgekbocnnkaaDoor
open Go Go.RowKit Nt
set_option linter.unusedSimpArgs false
set_option linter.unusedVariables false
set_option maxRecDepth 20000


theorem ls_n1 {w : World} {p : Option Addr} {n c : Nat} {es : List El} (h : Ls w p n c es) (b : ∀ (i : Nat) (e : El), es[i]? = some e → e.c ≤ 1048576) : ∀ (i : Nat) e, es[i]? = some e → e.n ≤ 1048576 := fun i e he => by
  obtain ⟨b1, o, _, _, _, hs⟩ := h.lie i e he
  have := hs.cap
  have := b i e he
  omega
theorem dl_unit {As : List Int} {k : Nat} {K : Int} (hK : K.natAbs = 1) (h : Dl As k) : Dl (As.map (fun a => K * a)) k := fun i z hz => by
  obtain ⟨a, ha, rfl⟩ := map_get hz
  rw [Int.natAbs_mul, hK, Nat.one_mul]
  exact h i a ha
theorem upK_one (As : List Int) : (upK As).natAbs = 1 := by unfold upK; split <;> rfl
theorem dl_up {As : List Int} {k : Nat} (h : Dl As k) : Dl (upZ As) k := dl_unit (upK_one As) h
theorem sgn_rng (z : Int) : -1 ≤ z.sign ∧ z.sign ≤ 1 := by
  rcases Int.lt_trichotomy z 0 with h | h | h
  · rw [Int.sign_eq_neg_one_of_neg h]; decide
  · rw [h]; decide
  · rw [Int.sign_eq_one_of_pos h]; decide
theorem ord_rng : ∀ (As Bs : List Int), -1 ≤ ordZ As Bs ∧ ordZ As Bs ≤ 1
  | [], [] => by decide
  | [], _ :: _ => by simp [ordZ]
  | _ :: _, [] => by simp [ordZ]
  | a :: r, b :: t => by
    have h1 := ord_rng r t
    have h2 := sgn_rng (a - b)
    unfold ordZ
    split <;> omega
theorem sign_gt {z : Int} (h : 0 < z) : 0 < z.sign := by rw [Int.sign_eq_one_of_pos h]; decide

set_option maxHeartbeats 4000000 in
theorem line_n0 (w : World) (u v x : Value) (n m l : Nat) (As Bs Cs : List Int) (h : Hs w (Vv n As 1048576) u) (h' : Hs w (Vv m Bs 1048576) v) (h'' : Hs w (Vv l Cs 1048576) x) (hn : n ≤ 1048576) (hm : m ≤ 1048576) (hl : l ≤ 1048576) (hT : Tab w) (q1 : 0 ≤ ordZ As Bs) (hl0 : leadZ As = -1) :
    Calls Tryd.prog 5 #[u, v, x] w (Gives (IS (.bool true)) w) := by
  have hlA := vv_len h.now
  have hd : Dl As 1048576 := vv_dl h.now
  have hNd : Dl ((As).map (fun a => (-1) * a)) 1048576 := dl_unit (by decide) hd
  have hUd : Dl (upZ (As)) 1048576 := dl_up hd
  have hUNd : Dl (upZ ((As).map (fun a => (-1) * a))) 1048576 := dl_up hNd
  have d1 : (digs (-1 : Int).natAbs).length ≤ 1 := dl_small (by decide)
  have zz1 := ord_anti As Bs
  have zz2 := ord_refl As
  have zz4 : ordZ (upZ As) (upZ ((As).map (fun a => (-1) * a))) = 0 := by rw [up_neg]; exact ord_refl _
  have zz5 : leadZ As = leadZ ((As).map (fun a => (-1) * a)) := (lead_neg As).symm
  have o1 := ord_rng As Bs
  have o2 := ord_rng Bs As
  refine calls_sta (sl := [(0, (Vv n As 1048576)), (1, (Vv m Bs 1048576)), (2, (Vv l Cs 1048576))]) Tryd.func5 rfl Tryd.ntmps5 (by simp) (args_cons rfl (h) (args_cons rfl (h') (args_cons rfl (h'') args_nil))) ?_
  intro a0 S0
  replace S0 : Sta w 91 [] [(0, (Vv n As 1048576)), (1, (Vv m Bs 1048576)), (2, (Vv l Cs 1048576)), (1000001, TT)] (fun _ => False) a0 w := S0.moreT 1000001 (tt_has hT)
  refine wp_stmt_seq [.val (Is (.bool false))] [] [.inl 0, .inr 0, .inr 1, .inr 2, .inr 3] follows S0 rfl (by kernel_rfl) ?_ ?_
  · refine ⟨trivial, ?_⟩
    · exact owe_move rfl (wants_all rfl) (Or.inr rfl) (opnd_const _) rfl
  intro B1 a1 W1 S1
  replace S1 : Sta w 91 [] [(6, (Is (.bool false))), (0, (Vv n As 1048576)), (1, (Vv m Bs 1048576)), (2, (Vv l Cs 1048576)), (1000001, TT)] B1 a1 W1 := S1
  refine wp_seq ?_
  refine wp_stmt_seq [.val (Is (.bool true)),
      .val (Is (.bool false))] [] [.inl 1, .inr 0, .inr 1, .inr 2, .inr 3, .inr 4] follows S1 rfl (by kernel_rfl) ?_ ?_
  · refine ⟨⟨trivial, ?_⟩, ?_⟩
    · exact owe_call0T rfl (wants_all rfl) rfl (opnd_slot 4 1000001 rfl (by kernel_rfl)) (fresh_is _) rfl (fun args w => by go_simp) alive_w
    · exact owe_un (x := .tmp 10) rfl (wants_all rfl) rfl (opnd_op 0 10 (by kernel_rfl) rfl) rfl (fun ρ w h1 => run_not ρ _ _ w _ h1)
  intro B2 a2 W2 S2
  replace S2 : Sta w 91 [] [(11, (Is (.bool false))), (6, (Is (.bool false))), (0, (Vv n As 1048576)), (1, (Vv m Bs 1048576)), (2, (Vv l Cs 1048576)), (1000001, TT)] B2 a2 W2 := S2
  refine wp_cond_false (S2.bool 0 11 rfl) ?_
  refine wp_skip ?_
  refine thenN ?_
  refine wp_seq ?_
  refine wp_stmt_seq [.val (Vv n As 1048576),
      .val (Vv m Bs 1048576),
      .val (Is (.int .i64 (ordZ (As) (Bs)))),
      .val (Vv m Bs 1048576),
      .val (Vv n As 1048576),
      .val (Is (.int .i64 (ordZ (Bs) (As)))),
      .val (Is (.int .i64 (-(ordZ (Bs) (As))))),
      .val (Is (.bool false)),
      .val (Is (.bool false)),
      .val (Vv n As 1048576),
      .val (Vv n As 1048576),
      .val (Is (.int .i64 (ordZ (As) (As)))),
      .val (Is (.bool false)),
      .val (Is (.bool false)),
      .val (Is (.bool false)),
      .val (Vv n As 1048576),
      .val (Vv m Bs 1048576),
      .val (Is (.int .i64 (ordZ (As) (Bs)))),
      .val (Is (.bool false)),
      .val (Is (.bool false)),
      .off,
      .off,
      .off,
      .off,
      .val (Is (.bool false)),
      .val (Is (.bool false)),
      .off,
      .off,
      .off,
      .off,
      .val (Is (.bool false)),
      .val (Is (.bool false))] [] [.inl 31, .inr 0, .inr 1, .inr 2, .inr 5] follows S2 rfl (by kernel_rfl) ?_ ?_
  · refine ⟨⟨⟨⟨⟨⟨⟨⟨⟨⟨⟨⟨⟨⟨⟨⟨⟨⟨⟨⟨⟨⟨⟨⟨⟨⟨⟨⟨⟨⟨⟨⟨trivial, ?_⟩, ?_⟩, ?_⟩, ?_⟩, ?_⟩, ?_⟩, ?_⟩, ?_⟩, ?_⟩, ?_⟩, ?_⟩, ?_⟩, ?_⟩, ?_⟩, ?_⟩, ?_⟩, ?_⟩, ?_⟩, ?_⟩, ?_⟩, ?_⟩, ?_⟩, ?_⟩, ?_⟩, ?_⟩, ?_⟩, ?_⟩, ?_⟩, ?_⟩, ?_⟩, ?_⟩, ?_⟩
    · exact owe_move rfl (wants_all rfl) (Or.inl rfl) (opnd_slot 2 0 rfl (by kernel_rfl)) rfl
    · exact owe_move rfl (wants_all rfl) (Or.inl rfl) (opnd_slot 3 1 rfl (by kernel_rfl)) rfl
    · exact owe_callh2 rfl (wants_all rfl) rfl ((opnd_op 0 12 (by kernel_rfl) rfl).imp (fun _ _ h => h)) ((opnd_op 1 13 (by kernel_rfl) rfl).imp (fun _ _ h => h)) (fresh_is _) rfl (fun args w => by go_simp) (fun w u v h h' => order_w w u v n m 1048576 1048576 _ _ h h' (by omega) (by omega) (by omega) (by omega))
    · exact owe_move rfl (wants_all rfl) (Or.inl rfl) (opnd_slot 3 1 rfl (by kernel_rfl)) rfl
    · exact owe_move rfl (wants_all rfl) (Or.inl rfl) (opnd_slot 2 0 rfl (by kernel_rfl)) rfl
    · exact owe_callh2 rfl (wants_all rfl) rfl ((opnd_op 3 15 (by kernel_rfl) rfl).imp (fun _ _ h => h)) ((opnd_op 4 16 (by kernel_rfl) rfl).imp (fun _ _ h => h)) (fresh_is _) rfl (fun args w => by go_simp) (fun w u v h h' => order_w w u v m n 1048576 1048576 _ _ h h' (by omega) (by omega) (by omega) (by omega))
    · exact owe_un (x := .tmp 17) rfl (wants_all rfl) rfl (opnd_op 5 17 (by kernel_rfl) rfl) rfl (fun ρ w h1 => run_neg_int ρ _ _ w _ _ ⟨rfl, by omega, by omega⟩ h1)
    · exact owe_bin rfl (wants_all rfl) rfl (opnd_op 2 14 (by kernel_rfl) rfl) (opnd_op 6 18 (by kernel_rfl) rfl) rfl (fun ρ w h1 h2 => by exact run_neq_int_f ρ _ _ _ w _ _ zz1 h1 h2)
    · exact owe_move rfl (wants_all rfl) (Or.inl rfl) (opnd_op 7 19 (by kernel_rfl) rfl) rfl
    · exact owe_move rfl (wants_if 8 20 rfl (by kernel_rfl) rfl) (Or.inl rfl) (opnd_slot 2 0 rfl (by kernel_rfl)) rfl
    · exact owe_move rfl (wants_if 8 20 rfl (by kernel_rfl) rfl) (Or.inl rfl) (opnd_slot 2 0 rfl (by kernel_rfl)) rfl
    · exact owe_callh2 rfl (wants_if 8 20 rfl (by kernel_rfl) rfl) rfl ((opnd_op 9 21 (by kernel_rfl) rfl).imp (fun _ _ h => h)) ((opnd_op 10 22 (by kernel_rfl) rfl).imp (fun _ _ h => h)) (fresh_is _) rfl (fun args w => by go_simp) (fun w u v h h' => order_w w u v n n 1048576 1048576 _ _ h h' (by omega) (by omega) (by omega) (by omega))
    · exact owe_bin rfl (wants_if 8 20 rfl (by kernel_rfl) rfl) rfl (opnd_op 11 23 (by kernel_rfl) rfl) (opnd_const _) rfl (fun ρ w h1 h2 => by exact run_neq_int_f ρ _ _ _ w _ _ zz2 h1 h2)
    · exact owe_pick rfl (wants_all rfl) rfl (opnd_op 8 20 (by kernel_rfl) rfl) (fun h => nomatch h) (fun _ => (opnd_op 12 24 (by kernel_rfl) rfl)) rfl
    · exact owe_move rfl (wants_all rfl) (Or.inl rfl) (opnd_op 13 25 (by kernel_rfl) rfl) rfl
    · exact owe_move rfl (wants_if 14 26 rfl (by kernel_rfl) rfl) (Or.inl rfl) (opnd_slot 2 0 rfl (by kernel_rfl)) rfl
    · exact owe_move rfl (wants_if 14 26 rfl (by kernel_rfl) rfl) (Or.inl rfl) (opnd_slot 3 1 rfl (by kernel_rfl)) rfl
    · exact owe_callh2 rfl (wants_if 14 26 rfl (by kernel_rfl) rfl) rfl ((opnd_op 15 27 (by kernel_rfl) rfl).imp (fun _ _ h => h)) ((opnd_op 16 28 (by kernel_rfl) rfl).imp (fun _ _ h => h)) (fresh_is _) rfl (fun args w => by go_simp) (fun w u v h h' => order_w w u v n m 1048576 1048576 _ _ h h' (by omega) (by omega) (by omega) (by omega))
    · exact owe_bin rfl (wants_if 14 26 rfl (by kernel_rfl) rfl) rfl (opnd_op 17 29 (by kernel_rfl) rfl) (opnd_const _) rfl (fun ρ w h1 h2 => by exact run_lss_int_f ρ _ _ _ w _ _ q1 h1 h2)
    · exact owe_move rfl (wants_if 14 26 rfl (by kernel_rfl) rfl) (Or.inl rfl) (opnd_op 18 30 (by kernel_rfl) rfl) rfl
    · exact owe_off 19 31 rfl rfl rfl (by kernel_rfl) rfl (by decide)
    · exact owe_off 19 31 rfl rfl rfl (by kernel_rfl) rfl (by decide)
    · exact owe_off 19 31 rfl rfl rfl (by kernel_rfl) rfl (by decide)
    · exact owe_off 19 31 rfl rfl rfl (by kernel_rfl) rfl (by decide)
    · exact owe_pick rfl (wants_if 14 26 rfl (by kernel_rfl) rfl) rfl (opnd_op 19 31 (by kernel_rfl) rfl) (fun h => nomatch h) (fun _ => (opnd_const _)) rfl
    · exact owe_move rfl (wants_if 14 26 rfl (by kernel_rfl) rfl) (Or.inl rfl) (opnd_op 24 36 (by kernel_rfl) rfl) rfl
    · exact owe_off 25 37 rfl rfl rfl (by kernel_rfl) rfl (by decide)
    · exact owe_off 25 37 rfl rfl rfl (by kernel_rfl) rfl (by decide)
    · exact owe_off 25 37 rfl rfl rfl (by kernel_rfl) rfl (by decide)
    · exact owe_off 25 37 rfl rfl rfl (by kernel_rfl) rfl (by decide)
    · exact owe_pick rfl (wants_if 14 26 rfl (by kernel_rfl) rfl) rfl (opnd_op 25 37 (by kernel_rfl) rfl) (fun h => nomatch h) (fun _ => (opnd_const _)) rfl
    · exact owe_pick rfl (wants_all rfl) rfl (opnd_op 14 26 (by kernel_rfl) rfl) (fun h => nomatch h) (fun _ => (opnd_op 30 42 (by kernel_rfl) rfl)) rfl
  intro B3 a3 W3 S3
  replace S3 : Sta w 91 [] [(43, (Is (.bool false))), (11, (Is (.bool false))), (6, (Is (.bool false))), (0, (Vv n As 1048576)), (1000001, TT)] B3 a3 W3 := S3
  refine wp_cond_false (S3.bool 0 43 rfl) ?_
  refine wp_skip ?_
  refine thenN ?_
  refine wp_stmt_seq [.val ((ZN (-1)) w.heap.size),
      .val (Vv n As 1048576),
      .val ((VN n ((As).map (fun a => (-1) * a))) w.heap.size),
      .val ((VN n ((As).map (fun a => (-1) * a))) w.heap.size)] [] [.inl 3, .inr 0, .inr 1, .inr 2, .inr 3, .inr 4] follows S3 rfl (by kernel_rfl) ?_ ?_
  · refine ⟨⟨⟨⟨trivial, ?_⟩, ?_⟩, ?_⟩, ?_⟩
    · exact owe_call1 rfl (wants_all rfl) rfl (opnd_const _) (fresh_zn _) rfl (fun args w => by go_simp) (g_zof (-1) (by decide) (by decide))
    · exact owe_move rfl (wants_all rfl) (Or.inl rfl) (opnd_slot 3 0 rfl (by kernel_rfl)) rfl
    · exact owe_callh2 rfl (wants_all rfl) rfl ((opnd_op 0 44 (by kernel_rfl) rfl).imp (zn_zv d1)) ((opnd_op 1 45 (by kernel_rfl) rfl).imp (fun _ _ h => h)) fresh_vn rfl (fun args w => by go_simp) (fun w u v h h' => times_w w u v n 1048576 1 _ _ h h' (by omega) (by omega))
    · exact owe_move rfl (wants_all rfl) (Or.inr rfl) (opnd_op 2 46 (by kernel_rfl) rfl) rfl
  intro B4 a4 W4 S4
  replace S4 : Sta w 91 [] [(7, ((VN n ((As).map (fun a => (-1) * a))) w.heap.size)), (43, (Is (.bool false))), (11, (Is (.bool false))), (6, (Is (.bool false))), (0, (Vv n As 1048576)), (1000001, TT)] B4 a4 W4 := S4
  refine wp_stmt_seq [.val (Vv n As 1048576),
      .val (Is (.int .i64 (-1))),
      .val (Is (.int .i64 (-1)))] [] [.inl 2, .inr 0, .inr 1, .inr 2, .inr 3, .inr 4, .inr 5] follows S4 rfl (by kernel_rfl) ?_ ?_
  · refine ⟨⟨⟨trivial, ?_⟩, ?_⟩, ?_⟩
    · exact owe_move rfl (wants_all rfl) (Or.inl rfl) (opnd_slot 4 0 rfl (by kernel_rfl)) rfl
    · exact owe_callh1 rfl (wants_all rfl) rfl ((opnd_op 0 47 (by kernel_rfl) rfl).imp (fun _ _ h => h)) (fresh_is _) rfl (fun args w => by go_simp) (fun w u0 h0 => Gives.cast ((fun w u h => lead_w w u n 1048576 _ h (by omega) (by omega)) w u0 h0) (by rw [hl0]))
    · exact owe_move rfl (wants_all rfl) (Or.inr rfl) (opnd_op 1 48 (by kernel_rfl) rfl) rfl
  intro B5 a5 W5 S5
  replace S5 : Sta w 91 [] [(8, (Is (.int .i64 (-1)))), (7, ((VN n ((As).map (fun a => (-1) * a))) w.heap.size)), (43, (Is (.bool false))), (11, (Is (.bool false))), (6, (Is (.bool false))), (0, (Vv n As 1048576)), (1000001, TT)] B5 a5 W5 := S5
  refine wp_seq ?_
  refine wp_stmt_seq [.val (Vv n As 1048576),
      .val ((VN n (upZ (As))) w.heap.size),
      .val ((VN n ((As).map (fun a => (-1) * a))) w.heap.size),
      .val ((VN n (upZ ((As).map (fun a => (-1) * a)))) w.heap.size),
      .val (Is (.int .i64 (ordZ (upZ (As)) (upZ ((As).map (fun a => (-1) * a)))))),
      .val (Is (.bool false)),
      .val (Is (.bool false)),
      .val (Is (.int .i64 (-1))),
      .val ((VN n ((As).map (fun a => (-1) * a))) w.heap.size),
      .val (Is (.int .i64 (leadZ ((As).map (fun a => (-1) * a))))),
      .val (Is (.bool false)),
      .val (Is (.bool false)),
      .val (Is (.bool false)),
      .val (Is (.int .i64 (-1))),
      .val (Vv n As 1048576),
      .val (Is (.int .i64 (n : Nat))),
      .val (Is (.bool false)),
      .val (Is (.bool false)),
      .val (Is (.bool false)),
      .val ((VN n ((As).map (fun a => (-1) * a))) w.heap.size),
      .val (Is (.int .i64 (n : Nat))),
      .val (Vv n As 1048576),
      .val (Is (.int .i64 (n : Nat))),
      .val (Is (.bool false)),
      .val (Is (.bool false))] [] [.inl 24, .inr 0, .inr 2, .inr 3, .inr 4, .inr 5, .inr 6] follows S5 rfl (by kernel_rfl) ?_ ?_
  · refine ⟨⟨⟨⟨⟨⟨⟨⟨⟨⟨⟨⟨⟨⟨⟨⟨⟨⟨⟨⟨⟨⟨⟨⟨⟨trivial, ?_⟩, ?_⟩, ?_⟩, ?_⟩, ?_⟩, ?_⟩, ?_⟩, ?_⟩, ?_⟩, ?_⟩, ?_⟩, ?_⟩, ?_⟩, ?_⟩, ?_⟩, ?_⟩, ?_⟩, ?_⟩, ?_⟩, ?_⟩, ?_⟩, ?_⟩, ?_⟩, ?_⟩, ?_⟩
    · exact owe_move rfl (wants_all rfl) (Or.inl rfl) (opnd_slot 5 0 rfl (by kernel_rfl)) rfl
    · exact owe_callh1 rfl (wants_all rfl) rfl ((opnd_op 0 49 (by kernel_rfl) rfl).imp (fun _ _ h => h)) fresh_vn rfl (fun args w => by go_simp) (fun w u h => up_w w u n 1048576 _ h (by omega) (by omega))
    · exact owe_move rfl (wants_all rfl) (Or.inl rfl) (opnd_slot 1 7 rfl (by kernel_rfl)) rfl
    · exact owe_callh1 rfl (wants_all rfl) rfl ((opnd_op 2 51 (by kernel_rfl) rfl).imp (vn_vv hNd)) fresh_vn rfl (fun args w => by go_simp) (fun w u h => up_w w u n 1048576 _ h (by omega) (by omega))
    · exact owe_callh2 rfl (wants_all rfl) rfl ((opnd_op 1 50 (by kernel_rfl) rfl).imp (vn_vv hUd)) ((opnd_op 3 52 (by kernel_rfl) rfl).imp (vn_vv hUNd)) (fresh_is _) rfl (fun args w => by go_simp) (fun w u v h h' => order_w w u v n n 1048576 1048576 _ _ h h' (by omega) (by omega) (by omega) (by omega))
    · exact owe_bin rfl (wants_all rfl) rfl (opnd_op 4 53 (by kernel_rfl) rfl) (opnd_const _) rfl (fun ρ w h1 h2 => by exact run_neq_int_f ρ _ _ _ w _ _ zz4 h1 h2)
    · exact owe_move rfl (wants_all rfl) (Or.inl rfl) (opnd_op 5 54 (by kernel_rfl) rfl) rfl
    · exact owe_move rfl (wants_if 6 55 rfl (by kernel_rfl) rfl) (Or.inl rfl) (opnd_slot 0 8 rfl (by kernel_rfl)) rfl
    · exact owe_move rfl (wants_if 6 55 rfl (by kernel_rfl) rfl) (Or.inl rfl) (opnd_slot 1 7 rfl (by kernel_rfl)) rfl
    · exact owe_callh1 rfl (wants_if 6 55 rfl (by kernel_rfl) rfl) rfl ((opnd_op 8 57 (by kernel_rfl) rfl).imp (vn_vv hNd)) (fresh_is _) rfl (fun args w => by go_simp) (fun w u h => lead_w w u n 1048576 _ h (by omega) (by omega))
    · exact owe_bin rfl (wants_if 6 55 rfl (by kernel_rfl) rfl) rfl (opnd_op 7 56 (by kernel_rfl) rfl) (opnd_op 9 58 (by kernel_rfl) rfl) rfl (fun ρ w h1 h2 => by exact run_neq_int_f ρ _ _ _ w _ _ (by rw [← zz5, hl0]) h1 h2)
    · exact owe_pick rfl (wants_all rfl) rfl (opnd_op 6 55 (by kernel_rfl) rfl) (fun h => nomatch h) (fun _ => (opnd_op 10 59 (by kernel_rfl) rfl)) rfl
    · exact owe_move rfl (wants_all rfl) (Or.inl rfl) (opnd_op 11 60 (by kernel_rfl) rfl) rfl
    · exact owe_move rfl (wants_if 12 61 rfl (by kernel_rfl) rfl) (Or.inl rfl) (opnd_slot 0 8 rfl (by kernel_rfl)) rfl
    · exact owe_move rfl (wants_if 12 61 rfl (by kernel_rfl) rfl) (Or.inl rfl) (opnd_slot 5 0 rfl (by kernel_rfl)) rfl
    · exact owe_len rfl (wants_if 12 61 rfl (by kernel_rfl) rfl) rfl (opnd_op 14 63 (by kernel_rfl) rfl) ar_len Tryd.underlying23 rfl
    · exact owe_bin rfl (wants_if 12 61 rfl (by kernel_rfl) rfl) rfl (opnd_op 13 62 (by kernel_rfl) rfl) (opnd_op 15 64 (by kernel_rfl) rfl) rfl (fun ρ w h1 h2 => by exact run_geq_int_f ρ _ _ _ w _ _ (by omega) h1 h2)
    · exact owe_pick rfl (wants_all rfl) rfl (opnd_op 12 61 (by kernel_rfl) rfl) (fun h => nomatch h) (fun _ => (opnd_op 16 65 (by kernel_rfl) rfl)) rfl
    · exact owe_move rfl (wants_all rfl) (Or.inl rfl) (opnd_op 17 66 (by kernel_rfl) rfl) rfl
    · exact owe_move rfl (wants_if 18 67 rfl (by kernel_rfl) rfl) (Or.inl rfl) (opnd_slot 1 7 rfl (by kernel_rfl)) rfl
    · exact owe_len rfl (wants_if 18 67 rfl (by kernel_rfl) rfl) rfl (opnd_op 19 68 (by kernel_rfl) rfl) lf_len Tryd.underlying23 rfl
    · exact owe_move rfl (wants_if 18 67 rfl (by kernel_rfl) rfl) (Or.inl rfl) (opnd_slot 5 0 rfl (by kernel_rfl)) rfl
    · exact owe_len rfl (wants_if 18 67 rfl (by kernel_rfl) rfl) rfl (opnd_op 21 70 (by kernel_rfl) rfl) ar_len Tryd.underlying23 rfl
    · exact owe_bin rfl (wants_if 18 67 rfl (by kernel_rfl) rfl) rfl (opnd_op 20 69 (by kernel_rfl) rfl) (opnd_op 22 71 (by kernel_rfl) rfl) rfl (fun ρ w h1 h2 => by exact run_neq_int_f ρ _ _ _ w _ _ rfl h1 h2)
    · exact owe_pick rfl (wants_all rfl) rfl (opnd_op 18 67 (by kernel_rfl) rfl) (fun h => nomatch h) (fun _ => (opnd_op 23 72 (by kernel_rfl) rfl)) rfl
  intro B6 a6 W6 S6
  replace S6 : Sta w 91 [] [(73, (Is (.bool false))), (8, (Is (.int .i64 (-1)))), (43, (Is (.bool false))), (11, (Is (.bool false))), (6, (Is (.bool false))), (0, (Vv n As 1048576)), (1000001, TT)] B6 a6 W6 := S6
  refine wp_cond_false (S6.bool 0 73 rfl) ?_
  refine wp_skip ?_
  refine thenN ?_
  refine wp_seq ?_
  refine wp_stmt_seq [.val (Is (.int .i64 (-1))),
      .val (Is (.bool true))] [] [.inl 1, .inr 0, .inr 1, .inr 2, .inr 3, .inr 4, .inr 5, .inr 6] follows S6 rfl (by kernel_rfl) ?_ ?_
  · refine ⟨⟨trivial, ?_⟩, ?_⟩
    · exact owe_move rfl (wants_all rfl) (Or.inl rfl) (opnd_slot 1 8 rfl (by kernel_rfl)) rfl
    · exact owe_bin rfl (wants_all rfl) rfl (opnd_op 0 74 (by kernel_rfl) rfl) (opnd_const _) rfl (fun ρ w h1 h2 => by exact run_lss_int_t ρ _ _ _ w _ _ (by decide) h1 h2)
  intro B7 a7 W7 S7
  replace S7 : Sta w 91 [] [(75, (Is (.bool true))), (73, (Is (.bool false))), (8, (Is (.int .i64 (-1)))), (43, (Is (.bool false))), (11, (Is (.bool false))), (6, (Is (.bool false))), (0, (Vv n As 1048576)), (1000001, TT)] B7 a7 W7 := S7
  refine wp_cond_true (S7.bool 0 75 rfl) ?_
  refine wp_stmt_seq [.val (Is (.bool true))] [] [.inl 0, .inr 0, .inr 1, .inr 2, .inr 3, .inr 4, .inr 6, .inr 7] follows S7 rfl (by kernel_rfl) ?_ ?_
  · refine ⟨trivial, ?_⟩
    · exact owe_move rfl (wants_all rfl) (Or.inr rfl) (opnd_const _) rfl
  intro B8 a8 W8 S8
  replace S8 : Sta w 91 [] [(6, (Is (.bool true))), (75, (Is (.bool true))), (73, (Is (.bool false))), (8, (Is (.int .i64 (-1)))), (43, (Is (.bool false))), (11, (Is (.bool false))), (0, (Vv n As 1048576)), (1000001, TT)] B8 a8 W8 := S8
  refine wp_ret ?_
  refine thenR ?_
  exact end_one S8 rfl (res_tmp S8 0 6 rfl)

set_option maxHeartbeats 4000000 in
theorem line_n1 (w : World) (u v x : Value) (n m l : Nat) (As Bs Cs : List Int) (h : Hs w (Vv n As 1048576) u) (h' : Hs w (Vv m Bs 1048576) v) (h'' : Hs w (Vv l Cs 1048576) x) (hn : n ≤ 1048576) (hm : m ≤ 1048576) (hl : l ≤ 1048576) (hT : Tab w) (q1 : 0 ≤ ordZ As Bs) (k0 : Nat) (hl0 : leadZ As = (k0 : Nat)) (hk0 : k0 < n) (x0 : Int) (hx0 : (upZ As)[k0]? = some x0) (hx1 : 0 < x0) :
    Calls Tryd.prog 5 #[u, v, x] w (Gives (IS (.bool true)) w) := by
  have hlA := vv_len h.now
  have hd : Dl As 1048576 := vv_dl h.now
  have hNd : Dl ((As).map (fun a => (-1) * a)) 1048576 := dl_unit (by decide) hd
  have hUd : Dl (upZ (As)) 1048576 := dl_up hd
  have hUNd : Dl (upZ ((As).map (fun a => (-1) * a))) 1048576 := dl_up hNd
  have d1 : (digs (-1 : Int).natAbs).length ≤ 1 := dl_small (by decide)
  have zz1 := ord_anti As Bs
  have zz2 := ord_refl As
  have zz4 : ordZ (upZ As) (upZ ((As).map (fun a => (-1) * a))) = 0 := by rw [up_neg]; exact ord_refl _
  have zz5 : leadZ As = leadZ ((As).map (fun a => (-1) * a)) := (lead_neg As).symm
  have o1 := ord_rng As Bs
  have o2 := ord_rng Bs As
  have dx : (digs x0.natAbs).length ≤ 1048576 := hUd k0 x0 hx0
  refine calls_sta (sl := [(0, (Vv n As 1048576)), (1, (Vv m Bs 1048576)), (2, (Vv l Cs 1048576))]) Tryd.func5 rfl Tryd.ntmps5 (by simp) (args_cons rfl (h) (args_cons rfl (h') (args_cons rfl (h'') args_nil))) ?_
  intro a0 S0
  replace S0 : Sta w 91 [] [(0, (Vv n As 1048576)), (1, (Vv m Bs 1048576)), (2, (Vv l Cs 1048576)), (1000001, TT)] (fun _ => False) a0 w := S0.moreT 1000001 (tt_has hT)
  refine wp_stmt_seq [.val (Is (.bool false))] [] [.inl 0, .inr 0, .inr 1, .inr 2, .inr 3] follows S0 rfl (by kernel_rfl) ?_ ?_
  · refine ⟨trivial, ?_⟩
    · exact owe_move rfl (wants_all rfl) (Or.inr rfl) (opnd_const _) rfl
  intro B1 a1 W1 S1
  replace S1 : Sta w 91 [] [(6, (Is (.bool false))), (0, (Vv n As 1048576)), (1, (Vv m Bs 1048576)), (2, (Vv l Cs 1048576)), (1000001, TT)] B1 a1 W1 := S1
  refine wp_seq ?_
  refine wp_stmt_seq [.val (Is (.bool true)),
      .val (Is (.bool false))] [] [.inl 1, .inr 0, .inr 1, .inr 2, .inr 3, .inr 4] follows S1 rfl (by kernel_rfl) ?_ ?_
  · refine ⟨⟨trivial, ?_⟩, ?_⟩
    · exact owe_call0T rfl (wants_all rfl) rfl (opnd_slot 4 1000001 rfl (by kernel_rfl)) (fresh_is _) rfl (fun args w => by go_simp) alive_w
    · exact owe_un (x := .tmp 10) rfl (wants_all rfl) rfl (opnd_op 0 10 (by kernel_rfl) rfl) rfl (fun ρ w h1 => run_not ρ _ _ w _ h1)
  intro B2 a2 W2 S2
  replace S2 : Sta w 91 [] [(11, (Is (.bool false))), (6, (Is (.bool false))), (0, (Vv n As 1048576)), (1, (Vv m Bs 1048576)), (2, (Vv l Cs 1048576)), (1000001, TT)] B2 a2 W2 := S2
  refine wp_cond_false (S2.bool 0 11 rfl) ?_
  refine wp_skip ?_
  refine thenN ?_
  refine wp_seq ?_
  refine wp_stmt_seq [.val (Vv n As 1048576),
      .val (Vv m Bs 1048576),
      .val (Is (.int .i64 (ordZ (As) (Bs)))),
      .val (Vv m Bs 1048576),
      .val (Vv n As 1048576),
      .val (Is (.int .i64 (ordZ (Bs) (As)))),
      .val (Is (.int .i64 (-(ordZ (Bs) (As))))),
      .val (Is (.bool false)),
      .val (Is (.bool false)),
      .val (Vv n As 1048576),
      .val (Vv n As 1048576),
      .val (Is (.int .i64 (ordZ (As) (As)))),
      .val (Is (.bool false)),
      .val (Is (.bool false)),
      .val (Is (.bool false)),
      .val (Vv n As 1048576),
      .val (Vv m Bs 1048576),
      .val (Is (.int .i64 (ordZ (As) (Bs)))),
      .val (Is (.bool false)),
      .val (Is (.bool false)),
      .off,
      .off,
      .off,
      .off,
      .val (Is (.bool false)),
      .val (Is (.bool false)),
      .off,
      .off,
      .off,
      .off,
      .val (Is (.bool false)),
      .val (Is (.bool false))] [] [.inl 31, .inr 0, .inr 1, .inr 2, .inr 5] follows S2 rfl (by kernel_rfl) ?_ ?_
  · refine ⟨⟨⟨⟨⟨⟨⟨⟨⟨⟨⟨⟨⟨⟨⟨⟨⟨⟨⟨⟨⟨⟨⟨⟨⟨⟨⟨⟨⟨⟨⟨⟨trivial, ?_⟩, ?_⟩, ?_⟩, ?_⟩, ?_⟩, ?_⟩, ?_⟩, ?_⟩, ?_⟩, ?_⟩, ?_⟩, ?_⟩, ?_⟩, ?_⟩, ?_⟩, ?_⟩, ?_⟩, ?_⟩, ?_⟩, ?_⟩, ?_⟩, ?_⟩, ?_⟩, ?_⟩, ?_⟩, ?_⟩, ?_⟩, ?_⟩, ?_⟩, ?_⟩, ?_⟩, ?_⟩
    · exact owe_move rfl (wants_all rfl) (Or.inl rfl) (opnd_slot 2 0 rfl (by kernel_rfl)) rfl
    · exact owe_move rfl (wants_all rfl) (Or.inl rfl) (opnd_slot 3 1 rfl (by kernel_rfl)) rfl
    · exact owe_callh2 rfl (wants_all rfl) rfl ((opnd_op 0 12 (by kernel_rfl) rfl).imp (fun _ _ h => h)) ((opnd_op 1 13 (by kernel_rfl) rfl).imp (fun _ _ h => h)) (fresh_is _) rfl (fun args w => by go_simp) (fun w u v h h' => order_w w u v n m 1048576 1048576 _ _ h h' (by omega) (by omega) (by omega) (by omega))
    · exact owe_move rfl (wants_all rfl) (Or.inl rfl) (opnd_slot 3 1 rfl (by kernel_rfl)) rfl
    · exact owe_move rfl (wants_all rfl) (Or.inl rfl) (opnd_slot 2 0 rfl (by kernel_rfl)) rfl
    · exact owe_callh2 rfl (wants_all rfl) rfl ((opnd_op 3 15 (by kernel_rfl) rfl).imp (fun _ _ h => h)) ((opnd_op 4 16 (by kernel_rfl) rfl).imp (fun _ _ h => h)) (fresh_is _) rfl (fun args w => by go_simp) (fun w u v h h' => order_w w u v m n 1048576 1048576 _ _ h h' (by omega) (by omega) (by omega) (by omega))
    · exact owe_un (x := .tmp 17) rfl (wants_all rfl) rfl (opnd_op 5 17 (by kernel_rfl) rfl) rfl (fun ρ w h1 => run_neg_int ρ _ _ w _ _ ⟨rfl, by omega, by omega⟩ h1)
    · exact owe_bin rfl (wants_all rfl) rfl (opnd_op 2 14 (by kernel_rfl) rfl) (opnd_op 6 18 (by kernel_rfl) rfl) rfl (fun ρ w h1 h2 => by exact run_neq_int_f ρ _ _ _ w _ _ zz1 h1 h2)
    · exact owe_move rfl (wants_all rfl) (Or.inl rfl) (opnd_op 7 19 (by kernel_rfl) rfl) rfl
    · exact owe_move rfl (wants_if 8 20 rfl (by kernel_rfl) rfl) (Or.inl rfl) (opnd_slot 2 0 rfl (by kernel_rfl)) rfl
    · exact owe_move rfl (wants_if 8 20 rfl (by kernel_rfl) rfl) (Or.inl rfl) (opnd_slot 2 0 rfl (by kernel_rfl)) rfl
    · exact owe_callh2 rfl (wants_if 8 20 rfl (by kernel_rfl) rfl) rfl ((opnd_op 9 21 (by kernel_rfl) rfl).imp (fun _ _ h => h)) ((opnd_op 10 22 (by kernel_rfl) rfl).imp (fun _ _ h => h)) (fresh_is _) rfl (fun args w => by go_simp) (fun w u v h h' => order_w w u v n n 1048576 1048576 _ _ h h' (by omega) (by omega) (by omega) (by omega))
    · exact owe_bin rfl (wants_if 8 20 rfl (by kernel_rfl) rfl) rfl (opnd_op 11 23 (by kernel_rfl) rfl) (opnd_const _) rfl (fun ρ w h1 h2 => by exact run_neq_int_f ρ _ _ _ w _ _ zz2 h1 h2)
    · exact owe_pick rfl (wants_all rfl) rfl (opnd_op 8 20 (by kernel_rfl) rfl) (fun h => nomatch h) (fun _ => (opnd_op 12 24 (by kernel_rfl) rfl)) rfl
    · exact owe_move rfl (wants_all rfl) (Or.inl rfl) (opnd_op 13 25 (by kernel_rfl) rfl) rfl
    · exact owe_move rfl (wants_if 14 26 rfl (by kernel_rfl) rfl) (Or.inl rfl) (opnd_slot 2 0 rfl (by kernel_rfl)) rfl
    · exact owe_move rfl (wants_if 14 26 rfl (by kernel_rfl) rfl) (Or.inl rfl) (opnd_slot 3 1 rfl (by kernel_rfl)) rfl
    · exact owe_callh2 rfl (wants_if 14 26 rfl (by kernel_rfl) rfl) rfl ((opnd_op 15 27 (by kernel_rfl) rfl).imp (fun _ _ h => h)) ((opnd_op 16 28 (by kernel_rfl) rfl).imp (fun _ _ h => h)) (fresh_is _) rfl (fun args w => by go_simp) (fun w u v h h' => order_w w u v n m 1048576 1048576 _ _ h h' (by omega) (by omega) (by omega) (by omega))
    · exact owe_bin rfl (wants_if 14 26 rfl (by kernel_rfl) rfl) rfl (opnd_op 17 29 (by kernel_rfl) rfl) (opnd_const _) rfl (fun ρ w h1 h2 => by exact run_lss_int_f ρ _ _ _ w _ _ q1 h1 h2)
    · exact owe_move rfl (wants_if 14 26 rfl (by kernel_rfl) rfl) (Or.inl rfl) (opnd_op 18 30 (by kernel_rfl) rfl) rfl
    · exact owe_off 19 31 rfl rfl rfl (by kernel_rfl) rfl (by decide)
    · exact owe_off 19 31 rfl rfl rfl (by kernel_rfl) rfl (by decide)
    · exact owe_off 19 31 rfl rfl rfl (by kernel_rfl) rfl (by decide)
    · exact owe_off 19 31 rfl rfl rfl (by kernel_rfl) rfl (by decide)
    · exact owe_pick rfl (wants_if 14 26 rfl (by kernel_rfl) rfl) rfl (opnd_op 19 31 (by kernel_rfl) rfl) (fun h => nomatch h) (fun _ => (opnd_const _)) rfl
    · exact owe_move rfl (wants_if 14 26 rfl (by kernel_rfl) rfl) (Or.inl rfl) (opnd_op 24 36 (by kernel_rfl) rfl) rfl
    · exact owe_off 25 37 rfl rfl rfl (by kernel_rfl) rfl (by decide)
    · exact owe_off 25 37 rfl rfl rfl (by kernel_rfl) rfl (by decide)
    · exact owe_off 25 37 rfl rfl rfl (by kernel_rfl) rfl (by decide)
    · exact owe_off 25 37 rfl rfl rfl (by kernel_rfl) rfl (by decide)
    · exact owe_pick rfl (wants_if 14 26 rfl (by kernel_rfl) rfl) rfl (opnd_op 25 37 (by kernel_rfl) rfl) (fun h => nomatch h) (fun _ => (opnd_const _)) rfl
    · exact owe_pick rfl (wants_all rfl) rfl (opnd_op 14 26 (by kernel_rfl) rfl) (fun h => nomatch h) (fun _ => (opnd_op 30 42 (by kernel_rfl) rfl)) rfl
  intro B3 a3 W3 S3
  replace S3 : Sta w 91 [] [(43, (Is (.bool false))), (11, (Is (.bool false))), (6, (Is (.bool false))), (0, (Vv n As 1048576)), (1000001, TT)] B3 a3 W3 := S3
  refine wp_cond_false (S3.bool 0 43 rfl) ?_
  refine wp_skip ?_
  refine thenN ?_
  refine wp_stmt_seq [.val ((ZN (-1)) w.heap.size),
      .val (Vv n As 1048576),
      .val ((VN n ((As).map (fun a => (-1) * a))) w.heap.size),
      .val ((VN n ((As).map (fun a => (-1) * a))) w.heap.size)] [] [.inl 3, .inr 0, .inr 1, .inr 2, .inr 3, .inr 4] follows S3 rfl (by kernel_rfl) ?_ ?_
  · refine ⟨⟨⟨⟨trivial, ?_⟩, ?_⟩, ?_⟩, ?_⟩
    · exact owe_call1 rfl (wants_all rfl) rfl (opnd_const _) (fresh_zn _) rfl (fun args w => by go_simp) (g_zof (-1) (by decide) (by decide))
    · exact owe_move rfl (wants_all rfl) (Or.inl rfl) (opnd_slot 3 0 rfl (by kernel_rfl)) rfl
    · exact owe_callh2 rfl (wants_all rfl) rfl ((opnd_op 0 44 (by kernel_rfl) rfl).imp (zn_zv d1)) ((opnd_op 1 45 (by kernel_rfl) rfl).imp (fun _ _ h => h)) fresh_vn rfl (fun args w => by go_simp) (fun w u v h h' => times_w w u v n 1048576 1 _ _ h h' (by omega) (by omega))
    · exact owe_move rfl (wants_all rfl) (Or.inr rfl) (opnd_op 2 46 (by kernel_rfl) rfl) rfl
  intro B4 a4 W4 S4
  replace S4 : Sta w 91 [] [(7, ((VN n ((As).map (fun a => (-1) * a))) w.heap.size)), (43, (Is (.bool false))), (11, (Is (.bool false))), (6, (Is (.bool false))), (0, (Vv n As 1048576)), (1000001, TT)] B4 a4 W4 := S4
  refine wp_stmt_seq [.val (Vv n As 1048576),
      .val (Is (.int .i64 (k0 : Nat))),
      .val (Is (.int .i64 (k0 : Nat)))] [] [.inl 2, .inr 0, .inr 1, .inr 2, .inr 3, .inr 4, .inr 5] follows S4 rfl (by kernel_rfl) ?_ ?_
  · refine ⟨⟨⟨trivial, ?_⟩, ?_⟩, ?_⟩
    · exact owe_move rfl (wants_all rfl) (Or.inl rfl) (opnd_slot 4 0 rfl (by kernel_rfl)) rfl
    · exact owe_callh1 rfl (wants_all rfl) rfl ((opnd_op 0 47 (by kernel_rfl) rfl).imp (fun _ _ h => h)) (fresh_is _) rfl (fun args w => by go_simp) (fun w u0 h0 => Gives.cast ((fun w u h => lead_w w u n 1048576 _ h (by omega) (by omega)) w u0 h0) (by rw [hl0]))
    · exact owe_move rfl (wants_all rfl) (Or.inr rfl) (opnd_op 1 48 (by kernel_rfl) rfl) rfl
  intro B5 a5 W5 S5
  replace S5 : Sta w 91 [] [(8, (Is (.int .i64 (k0 : Nat)))), (7, ((VN n ((As).map (fun a => (-1) * a))) w.heap.size)), (43, (Is (.bool false))), (11, (Is (.bool false))), (6, (Is (.bool false))), (0, (Vv n As 1048576)), (1000001, TT)] B5 a5 W5 := S5
  refine wp_seq ?_
  refine wp_stmt_seq [.val (Vv n As 1048576),
      .val ((VN n (upZ (As))) w.heap.size),
      .val ((VN n ((As).map (fun a => (-1) * a))) w.heap.size),
      .val ((VN n (upZ ((As).map (fun a => (-1) * a)))) w.heap.size),
      .val (Is (.int .i64 (ordZ (upZ (As)) (upZ ((As).map (fun a => (-1) * a)))))),
      .val (Is (.bool false)),
      .val (Is (.bool false)),
      .val (Is (.int .i64 (k0 : Nat))),
      .val ((VN n ((As).map (fun a => (-1) * a))) w.heap.size),
      .val (Is (.int .i64 (leadZ ((As).map (fun a => (-1) * a))))),
      .val (Is (.bool false)),
      .val (Is (.bool false)),
      .val (Is (.bool false)),
      .val (Is (.int .i64 (k0 : Nat))),
      .val (Vv n As 1048576),
      .val (Is (.int .i64 (n : Nat))),
      .val (Is (.bool false)),
      .val (Is (.bool false)),
      .val (Is (.bool false)),
      .val ((VN n ((As).map (fun a => (-1) * a))) w.heap.size),
      .val (Is (.int .i64 (n : Nat))),
      .val (Vv n As 1048576),
      .val (Is (.int .i64 (n : Nat))),
      .val (Is (.bool false)),
      .val (Is (.bool false))] [] [.inl 24, .inr 0, .inr 2, .inr 3, .inr 4, .inr 5, .inr 6] follows S5 rfl (by kernel_rfl) ?_ ?_
  · refine ⟨⟨⟨⟨⟨⟨⟨⟨⟨⟨⟨⟨⟨⟨⟨⟨⟨⟨⟨⟨⟨⟨⟨⟨⟨trivial, ?_⟩, ?_⟩, ?_⟩, ?_⟩, ?_⟩, ?_⟩, ?_⟩, ?_⟩, ?_⟩, ?_⟩, ?_⟩, ?_⟩, ?_⟩, ?_⟩, ?_⟩, ?_⟩, ?_⟩, ?_⟩, ?_⟩, ?_⟩, ?_⟩, ?_⟩, ?_⟩, ?_⟩, ?_⟩
    · exact owe_move rfl (wants_all rfl) (Or.inl rfl) (opnd_slot 5 0 rfl (by kernel_rfl)) rfl
    · exact owe_callh1 rfl (wants_all rfl) rfl ((opnd_op 0 49 (by kernel_rfl) rfl).imp (fun _ _ h => h)) fresh_vn rfl (fun args w => by go_simp) (fun w u h => up_w w u n 1048576 _ h (by omega) (by omega))
    · exact owe_move rfl (wants_all rfl) (Or.inl rfl) (opnd_slot 1 7 rfl (by kernel_rfl)) rfl
    · exact owe_callh1 rfl (wants_all rfl) rfl ((opnd_op 2 51 (by kernel_rfl) rfl).imp (vn_vv hNd)) fresh_vn rfl (fun args w => by go_simp) (fun w u h => up_w w u n 1048576 _ h (by omega) (by omega))
    · exact owe_callh2 rfl (wants_all rfl) rfl ((opnd_op 1 50 (by kernel_rfl) rfl).imp (vn_vv hUd)) ((opnd_op 3 52 (by kernel_rfl) rfl).imp (vn_vv hUNd)) (fresh_is _) rfl (fun args w => by go_simp) (fun w u v h h' => order_w w u v n n 1048576 1048576 _ _ h h' (by omega) (by omega) (by omega) (by omega))
    · exact owe_bin rfl (wants_all rfl) rfl (opnd_op 4 53 (by kernel_rfl) rfl) (opnd_const _) rfl (fun ρ w h1 h2 => by exact run_neq_int_f ρ _ _ _ w _ _ zz4 h1 h2)
    · exact owe_move rfl (wants_all rfl) (Or.inl rfl) (opnd_op 5 54 (by kernel_rfl) rfl) rfl
    · exact owe_move rfl (wants_if 6 55 rfl (by kernel_rfl) rfl) (Or.inl rfl) (opnd_slot 0 8 rfl (by kernel_rfl)) rfl
    · exact owe_move rfl (wants_if 6 55 rfl (by kernel_rfl) rfl) (Or.inl rfl) (opnd_slot 1 7 rfl (by kernel_rfl)) rfl
    · exact owe_callh1 rfl (wants_if 6 55 rfl (by kernel_rfl) rfl) rfl ((opnd_op 8 57 (by kernel_rfl) rfl).imp (vn_vv hNd)) (fresh_is _) rfl (fun args w => by go_simp) (fun w u h => lead_w w u n 1048576 _ h (by omega) (by omega))
    · exact owe_bin rfl (wants_if 6 55 rfl (by kernel_rfl) rfl) rfl (opnd_op 7 56 (by kernel_rfl) rfl) (opnd_op 9 58 (by kernel_rfl) rfl) rfl (fun ρ w h1 h2 => by exact run_neq_int_f ρ _ _ _ w _ _ (by rw [← zz5, hl0]) h1 h2)
    · exact owe_pick rfl (wants_all rfl) rfl (opnd_op 6 55 (by kernel_rfl) rfl) (fun h => nomatch h) (fun _ => (opnd_op 10 59 (by kernel_rfl) rfl)) rfl
    · exact owe_move rfl (wants_all rfl) (Or.inl rfl) (opnd_op 11 60 (by kernel_rfl) rfl) rfl
    · exact owe_move rfl (wants_if 12 61 rfl (by kernel_rfl) rfl) (Or.inl rfl) (opnd_slot 0 8 rfl (by kernel_rfl)) rfl
    · exact owe_move rfl (wants_if 12 61 rfl (by kernel_rfl) rfl) (Or.inl rfl) (opnd_slot 5 0 rfl (by kernel_rfl)) rfl
    · exact owe_len rfl (wants_if 12 61 rfl (by kernel_rfl) rfl) rfl (opnd_op 14 63 (by kernel_rfl) rfl) ar_len Tryd.underlying23 rfl
    · exact owe_bin rfl (wants_if 12 61 rfl (by kernel_rfl) rfl) rfl (opnd_op 13 62 (by kernel_rfl) rfl) (opnd_op 15 64 (by kernel_rfl) rfl) rfl (fun ρ w h1 h2 => by exact run_geq_int_f ρ _ _ _ w _ _ (by omega) h1 h2)
    · exact owe_pick rfl (wants_all rfl) rfl (opnd_op 12 61 (by kernel_rfl) rfl) (fun h => nomatch h) (fun _ => (opnd_op 16 65 (by kernel_rfl) rfl)) rfl
    · exact owe_move rfl (wants_all rfl) (Or.inl rfl) (opnd_op 17 66 (by kernel_rfl) rfl) rfl
    · exact owe_move rfl (wants_if 18 67 rfl (by kernel_rfl) rfl) (Or.inl rfl) (opnd_slot 1 7 rfl (by kernel_rfl)) rfl
    · exact owe_len rfl (wants_if 18 67 rfl (by kernel_rfl) rfl) rfl (opnd_op 19 68 (by kernel_rfl) rfl) lf_len Tryd.underlying23 rfl
    · exact owe_move rfl (wants_if 18 67 rfl (by kernel_rfl) rfl) (Or.inl rfl) (opnd_slot 5 0 rfl (by kernel_rfl)) rfl
    · exact owe_len rfl (wants_if 18 67 rfl (by kernel_rfl) rfl) rfl (opnd_op 21 70 (by kernel_rfl) rfl) ar_len Tryd.underlying23 rfl
    · exact owe_bin rfl (wants_if 18 67 rfl (by kernel_rfl) rfl) rfl (opnd_op 20 69 (by kernel_rfl) rfl) (opnd_op 22 71 (by kernel_rfl) rfl) rfl (fun ρ w h1 h2 => by exact run_neq_int_f ρ _ _ _ w _ _ rfl h1 h2)
    · exact owe_pick rfl (wants_all rfl) rfl (opnd_op 18 67 (by kernel_rfl) rfl) (fun h => nomatch h) (fun _ => (opnd_op 23 72 (by kernel_rfl) rfl)) rfl
  intro B6 a6 W6 S6
  replace S6 : Sta w 91 [] [(73, (Is (.bool false))), (8, (Is (.int .i64 (k0 : Nat)))), (43, (Is (.bool false))), (11, (Is (.bool false))), (6, (Is (.bool false))), (0, (Vv n As 1048576)), (1000001, TT)] B6 a6 W6 := S6
  refine wp_cond_false (S6.bool 0 73 rfl) ?_
  refine wp_skip ?_
  refine thenN ?_
  refine wp_seq ?_
  refine wp_stmt_seq [.val (Is (.int .i64 (k0 : Nat))),
      .val (Is (.bool false))] [] [.inl 1, .inr 0, .inr 1, .inr 2, .inr 3, .inr 4, .inr 5, .inr 6] follows S6 rfl (by kernel_rfl) ?_ ?_
  · refine ⟨⟨trivial, ?_⟩, ?_⟩
    · exact owe_move rfl (wants_all rfl) (Or.inl rfl) (opnd_slot 1 8 rfl (by kernel_rfl)) rfl
    · exact owe_bin rfl (wants_all rfl) rfl (opnd_op 0 74 (by kernel_rfl) rfl) (opnd_const _) rfl (fun ρ w h1 h2 => by exact run_lss_int_f ρ _ _ _ w _ _ (by omega) h1 h2)
  intro B7 a7 W7 S7
  replace S7 : Sta w 91 [] [(75, (Is (.bool false))), (73, (Is (.bool false))), (8, (Is (.int .i64 (k0 : Nat)))), (43, (Is (.bool false))), (11, (Is (.bool false))), (6, (Is (.bool false))), (0, (Vv n As 1048576)), (1000001, TT)] B7 a7 W7 := S7
  refine wp_cond_false (S7.bool 0 75 rfl) ?_
  refine wp_skip ?_
  refine thenN ?_
  refine wp_stmt_seq [.val (Vv n As 1048576),
      .val ((VN n (upZ (As))) w.heap.size),
      .val ((VN n (upZ (As))) w.heap.size)] [] [.inl 2, .inr 0, .inr 1, .inr 2, .inr 3, .inr 4, .inr 5, .inr 6, .inr 7] follows S7 rfl (by kernel_rfl) ?_ ?_
  · refine ⟨⟨⟨trivial, ?_⟩, ?_⟩, ?_⟩
    · exact owe_move rfl (wants_all rfl) (Or.inl rfl) (opnd_slot 6 0 rfl (by kernel_rfl)) rfl
    · exact owe_callh1 rfl (wants_all rfl) rfl ((opnd_op 0 76 (by kernel_rfl) rfl).imp (fun _ _ h => h)) fresh_vn rfl (fun args w => by go_simp) (fun w u h => up_w w u n 1048576 _ h (by omega) (by omega))
    · exact owe_move rfl (wants_all rfl) (Or.inr rfl) (opnd_op 1 77 (by kernel_rfl) rfl) rfl
  intro B8 a8 W8 S8
  replace S8 : Sta w 91 [] [(9, ((VN n (upZ (As))) w.heap.size)), (75, (Is (.bool false))), (73, (Is (.bool false))), (8, (Is (.int .i64 (k0 : Nat)))), (43, (Is (.bool false))), (11, (Is (.bool false))), (6, (Is (.bool false))), (0, (Vv n As 1048576)), (1000001, TT)] B8 a8 W8 := S8
  refine wp_stmt_seq [.val ((VN n (upZ (As))) w.heap.size),
      .val (Is (.int .i64 (n : Nat))),
      .val (Vv n As 1048576),
      .val (Is (.int .i64 (n : Nat))),
      .val (Is (.bool true)),
      .val (Is (.bool true)),
      .val ((VN n (upZ (As))) w.heap.size),
      .val (Is (.int .i64 (k0 : Nat))),
      .val (AtE 2 ((ZN (x0)) w.heap.size)),
      .val ((ZN (x0)) w.heap.size),
      .val (Is (.int .i64 (x0).sign)),
      .val (Is (.bool true)),
      .val (Is (.bool true)),
      .val (Is (.bool true))] [] [.inl 13, .inr 1, .inr 2, .inr 3, .inr 4, .inr 5, .inr 7, .inr 8] follows S8 rfl (by kernel_rfl) ?_ ?_
  · refine ⟨⟨⟨⟨⟨⟨⟨⟨⟨⟨⟨⟨⟨⟨trivial, ?_⟩, ?_⟩, ?_⟩, ?_⟩, ?_⟩, ?_⟩, ?_⟩, ?_⟩, ?_⟩, ?_⟩, ?_⟩, ?_⟩, ?_⟩, ?_⟩
    · exact owe_move rfl (wants_all rfl) (Or.inl rfl) (opnd_slot 0 9 rfl (by kernel_rfl)) rfl
    · exact owe_len rfl (wants_all rfl) rfl (opnd_op 0 78 (by kernel_rfl) rfl) lf_len Tryd.underlying23 rfl
    · exact owe_move rfl (wants_all rfl) (Or.inl rfl) (opnd_slot 7 0 rfl (by kernel_rfl)) rfl
    · exact owe_len rfl (wants_all rfl) rfl (opnd_op 2 80 (by kernel_rfl) rfl) ar_len Tryd.underlying23 rfl
    · exact owe_bin rfl (wants_all rfl) rfl (opnd_op 1 79 (by kernel_rfl) rfl) (opnd_op 3 81 (by kernel_rfl) rfl) rfl (fun ρ w h1 h2 => by exact run_eql_int_t ρ _ _ _ w _ _ rfl h1 h2)
    · exact owe_move rfl (wants_all rfl) (Or.inl rfl) (opnd_op 4 82 (by kernel_rfl) rfl) rfl
    · exact owe_move rfl (wants_if 5 83 rfl (by kernel_rfl) rfl) (Or.inl rfl) (opnd_slot 0 9 rfl (by kernel_rfl)) rfl
    · exact owe_move rfl (wants_if 5 83 rfl (by kernel_rfl) rfl) (Or.inl rfl) (opnd_slot 3 8 rfl (by kernel_rfl)) rfl
    · exact owe_aindex rfl (wants_if 5 83 rfl (by kernel_rfl) rfl) rfl idx_ints ((opnd_op 6 84 (by kernel_rfl) rfl).imp lf_ar) (opnd_op 7 85 (by kernel_rfl) rfl) (map_get' (· w.heap.size) (map_get' ZN hx0)) rfl
    · exact owe_aload rfl (wants_if 5 83 rfl (by kernel_rfl) rfl) rfl ldr_int (by decide) (cel_shp (by decide) shp_zn) (opnd_op 8 86 (by kernel_rfl) rfl) rfl
    · exact owe_call1 rfl (wants_if 5 83 rfl (by kernel_rfl) rfl) rfl (opnd_op 9 87 (by kernel_rfl) rfl) (fresh_is _) rfl (fun args w => by go_simp) (fun w u h => g_rsign (by omega) w u ((zn_zv dx) _ _ h))
    · exact owe_bin rfl (wants_if 5 83 rfl (by kernel_rfl) rfl) rfl (opnd_op 10 88 (by kernel_rfl) rfl) (opnd_const _) rfl (fun ρ w h1 h2 => by exact run_gtr_int_t ρ _ _ _ w _ _ (sign_gt hx1) h1 h2)
    · exact owe_pick rfl (wants_all rfl) rfl (opnd_op 5 83 (by kernel_rfl) rfl) (fun _ => (opnd_op 11 89 (by kernel_rfl) rfl)) (fun h => nomatch h) rfl
    · exact owe_move rfl (wants_all rfl) (Or.inr rfl) (opnd_op 12 90 (by kernel_rfl) rfl) rfl
  intro B9 a9 W9 S9
  replace S9 : Sta w 91 [] [(6, (Is (.bool true))), (75, (Is (.bool false))), (73, (Is (.bool false))), (8, (Is (.int .i64 (k0 : Nat)))), (43, (Is (.bool false))), (11, (Is (.bool false))), (0, (Vv n As 1048576)), (1000001, TT)] B9 a9 W9 := S9
  refine wp_ret ?_
  exact end_one S9 rfl (res_tmp S9 0 6 rfl)

set_option maxHeartbeats 4000000 in
theorem line_y0 (w : World) (u v x : Value) (n m l : Nat) (As Bs Cs : List Int) (h : Hs w (Vv n As 1048576) u) (h' : Hs w (Vv m Bs 1048576) v) (h'' : Hs w (Vv l Cs 1048576) x) (hn : n ≤ 1048576) (hm : m ≤ 1048576) (hl : l ≤ 1048576) (hT : Tab w) (q1 : ordZ As Bs < 0) (q2 : 0 ≤ ordZ Bs Cs) (hl0 : leadZ As = -1) :
    Calls Tryd.prog 5 #[u, v, x] w (Gives (IS (.bool true)) w) := by
  have hlA := vv_len h.now
  have hd : Dl As 1048576 := vv_dl h.now
  have hNd : Dl ((As).map (fun a => (-1) * a)) 1048576 := dl_unit (by decide) hd
  have hUd : Dl (upZ (As)) 1048576 := dl_up hd
  have hUNd : Dl (upZ ((As).map (fun a => (-1) * a))) 1048576 := dl_up hNd
  have d1 : (digs (-1 : Int).natAbs).length ≤ 1 := dl_small (by decide)
  have zz1 := ord_anti As Bs
  have zz2 := ord_refl As
  have zz4 : ordZ (upZ As) (upZ ((As).map (fun a => (-1) * a))) = 0 := by rw [up_neg]; exact ord_refl _
  have zz5 : leadZ As = leadZ ((As).map (fun a => (-1) * a)) := (lead_neg As).symm
  have o1 := ord_rng As Bs
  have o2 := ord_rng Bs As
  refine calls_sta (sl := [(0, (Vv n As 1048576)), (1, (Vv m Bs 1048576)), (2, (Vv l Cs 1048576))]) Tryd.func5 rfl Tryd.ntmps5 (by simp) (args_cons rfl (h) (args_cons rfl (h') (args_cons rfl (h'') args_nil))) ?_
  intro a0 S0
  replace S0 : Sta w 91 [] [(0, (Vv n As 1048576)), (1, (Vv m Bs 1048576)), (2, (Vv l Cs 1048576)), (1000001, TT)] (fun _ => False) a0 w := S0.moreT 1000001 (tt_has hT)
  refine wp_stmt_seq [.val (Is (.bool false))] [] [.inl 0, .inr 0, .inr 1, .inr 2, .inr 3] follows S0 rfl (by kernel_rfl) ?_ ?_
  · refine ⟨trivial, ?_⟩
    · exact owe_move rfl (wants_all rfl) (Or.inr rfl) (opnd_const _) rfl
  intro B1 a1 W1 S1
  replace S1 : Sta w 91 [] [(6, (Is (.bool false))), (0, (Vv n As 1048576)), (1, (Vv m Bs 1048576)), (2, (Vv l Cs 1048576)), (1000001, TT)] B1 a1 W1 := S1
  refine wp_seq ?_
  refine wp_stmt_seq [.val (Is (.bool true)),
      .val (Is (.bool false))] [] [.inl 1, .inr 0, .inr 1, .inr 2, .inr 3, .inr 4] follows S1 rfl (by kernel_rfl) ?_ ?_
  · refine ⟨⟨trivial, ?_⟩, ?_⟩
    · exact owe_call0T rfl (wants_all rfl) rfl (opnd_slot 4 1000001 rfl (by kernel_rfl)) (fresh_is _) rfl (fun args w => by go_simp) alive_w
    · exact owe_un (x := .tmp 10) rfl (wants_all rfl) rfl (opnd_op 0 10 (by kernel_rfl) rfl) rfl (fun ρ w h1 => run_not ρ _ _ w _ h1)
  intro B2 a2 W2 S2
  replace S2 : Sta w 91 [] [(11, (Is (.bool false))), (6, (Is (.bool false))), (0, (Vv n As 1048576)), (1, (Vv m Bs 1048576)), (2, (Vv l Cs 1048576)), (1000001, TT)] B2 a2 W2 := S2
  refine wp_cond_false (S2.bool 0 11 rfl) ?_
  refine wp_skip ?_
  refine thenN ?_
  refine wp_seq ?_
  refine wp_stmt_seq [.val (Vv n As 1048576),
      .val (Vv m Bs 1048576),
      .val (Is (.int .i64 (ordZ (As) (Bs)))),
      .val (Vv m Bs 1048576),
      .val (Vv n As 1048576),
      .val (Is (.int .i64 (ordZ (Bs) (As)))),
      .val (Is (.int .i64 (-(ordZ (Bs) (As))))),
      .val (Is (.bool false)),
      .val (Is (.bool false)),
      .val (Vv n As 1048576),
      .val (Vv n As 1048576),
      .val (Is (.int .i64 (ordZ (As) (As)))),
      .val (Is (.bool false)),
      .val (Is (.bool false)),
      .val (Is (.bool false)),
      .val (Vv n As 1048576),
      .val (Vv m Bs 1048576),
      .val (Is (.int .i64 (ordZ (As) (Bs)))),
      .val (Is (.bool true)),
      .val (Is (.bool true)),
      .val (Vv m Bs 1048576),
      .val (Vv l Cs 1048576),
      .val (Is (.int .i64 (ordZ (Bs) (Cs)))),
      .val (Is (.bool false)),
      .val (Is (.bool false)),
      .val (Is (.bool false)),
      .off,
      .off,
      .off,
      .off,
      .val (Is (.bool false)),
      .val (Is (.bool false))] [] [.inl 31, .inr 0, .inr 1, .inr 2, .inr 5] follows S2 rfl (by kernel_rfl) ?_ ?_
  · refine ⟨⟨⟨⟨⟨⟨⟨⟨⟨⟨⟨⟨⟨⟨⟨⟨⟨⟨⟨⟨⟨⟨⟨⟨⟨⟨⟨⟨⟨⟨⟨⟨trivial, ?_⟩, ?_⟩, ?_⟩, ?_⟩, ?_⟩, ?_⟩, ?_⟩, ?_⟩, ?_⟩, ?_⟩, ?_⟩, ?_⟩, ?_⟩, ?_⟩, ?_⟩, ?_⟩, ?_⟩, ?_⟩, ?_⟩, ?_⟩, ?_⟩, ?_⟩, ?_⟩, ?_⟩, ?_⟩, ?_⟩, ?_⟩, ?_⟩, ?_⟩, ?_⟩, ?_⟩, ?_⟩
    · exact owe_move rfl (wants_all rfl) (Or.inl rfl) (opnd_slot 2 0 rfl (by kernel_rfl)) rfl
    · exact owe_move rfl (wants_all rfl) (Or.inl rfl) (opnd_slot 3 1 rfl (by kernel_rfl)) rfl
    · exact owe_callh2 rfl (wants_all rfl) rfl ((opnd_op 0 12 (by kernel_rfl) rfl).imp (fun _ _ h => h)) ((opnd_op 1 13 (by kernel_rfl) rfl).imp (fun _ _ h => h)) (fresh_is _) rfl (fun args w => by go_simp) (fun w u v h h' => order_w w u v n m 1048576 1048576 _ _ h h' (by omega) (by omega) (by omega) (by omega))
    · exact owe_move rfl (wants_all rfl) (Or.inl rfl) (opnd_slot 3 1 rfl (by kernel_rfl)) rfl
    · exact owe_move rfl (wants_all rfl) (Or.inl rfl) (opnd_slot 2 0 rfl (by kernel_rfl)) rfl
    · exact owe_callh2 rfl (wants_all rfl) rfl ((opnd_op 3 15 (by kernel_rfl) rfl).imp (fun _ _ h => h)) ((opnd_op 4 16 (by kernel_rfl) rfl).imp (fun _ _ h => h)) (fresh_is _) rfl (fun args w => by go_simp) (fun w u v h h' => order_w w u v m n 1048576 1048576 _ _ h h' (by omega) (by omega) (by omega) (by omega))
    · exact owe_un (x := .tmp 17) rfl (wants_all rfl) rfl (opnd_op 5 17 (by kernel_rfl) rfl) rfl (fun ρ w h1 => run_neg_int ρ _ _ w _ _ ⟨rfl, by omega, by omega⟩ h1)
    · exact owe_bin rfl (wants_all rfl) rfl (opnd_op 2 14 (by kernel_rfl) rfl) (opnd_op 6 18 (by kernel_rfl) rfl) rfl (fun ρ w h1 h2 => by exact run_neq_int_f ρ _ _ _ w _ _ zz1 h1 h2)
    · exact owe_move rfl (wants_all rfl) (Or.inl rfl) (opnd_op 7 19 (by kernel_rfl) rfl) rfl
    · exact owe_move rfl (wants_if 8 20 rfl (by kernel_rfl) rfl) (Or.inl rfl) (opnd_slot 2 0 rfl (by kernel_rfl)) rfl
    · exact owe_move rfl (wants_if 8 20 rfl (by kernel_rfl) rfl) (Or.inl rfl) (opnd_slot 2 0 rfl (by kernel_rfl)) rfl
    · exact owe_callh2 rfl (wants_if 8 20 rfl (by kernel_rfl) rfl) rfl ((opnd_op 9 21 (by kernel_rfl) rfl).imp (fun _ _ h => h)) ((opnd_op 10 22 (by kernel_rfl) rfl).imp (fun _ _ h => h)) (fresh_is _) rfl (fun args w => by go_simp) (fun w u v h h' => order_w w u v n n 1048576 1048576 _ _ h h' (by omega) (by omega) (by omega) (by omega))
    · exact owe_bin rfl (wants_if 8 20 rfl (by kernel_rfl) rfl) rfl (opnd_op 11 23 (by kernel_rfl) rfl) (opnd_const _) rfl (fun ρ w h1 h2 => by exact run_neq_int_f ρ _ _ _ w _ _ zz2 h1 h2)
    · exact owe_pick rfl (wants_all rfl) rfl (opnd_op 8 20 (by kernel_rfl) rfl) (fun h => nomatch h) (fun _ => (opnd_op 12 24 (by kernel_rfl) rfl)) rfl
    · exact owe_move rfl (wants_all rfl) (Or.inl rfl) (opnd_op 13 25 (by kernel_rfl) rfl) rfl
    · exact owe_move rfl (wants_if 14 26 rfl (by kernel_rfl) rfl) (Or.inl rfl) (opnd_slot 2 0 rfl (by kernel_rfl)) rfl
    · exact owe_move rfl (wants_if 14 26 rfl (by kernel_rfl) rfl) (Or.inl rfl) (opnd_slot 3 1 rfl (by kernel_rfl)) rfl
    · exact owe_callh2 rfl (wants_if 14 26 rfl (by kernel_rfl) rfl) rfl ((opnd_op 15 27 (by kernel_rfl) rfl).imp (fun _ _ h => h)) ((opnd_op 16 28 (by kernel_rfl) rfl).imp (fun _ _ h => h)) (fresh_is _) rfl (fun args w => by go_simp) (fun w u v h h' => order_w w u v n m 1048576 1048576 _ _ h h' (by omega) (by omega) (by omega) (by omega))
    · exact owe_bin rfl (wants_if 14 26 rfl (by kernel_rfl) rfl) rfl (opnd_op 17 29 (by kernel_rfl) rfl) (opnd_const _) rfl (fun ρ w h1 h2 => by exact run_lss_int_t ρ _ _ _ w _ _ q1 h1 h2)
    · exact owe_move rfl (wants_if 14 26 rfl (by kernel_rfl) rfl) (Or.inl rfl) (opnd_op 18 30 (by kernel_rfl) rfl) rfl
    · exact owe_move rfl (wants_if 19 31 rfl (by kernel_rfl) rfl) (Or.inl rfl) (opnd_slot 3 1 rfl (by kernel_rfl)) rfl
    · exact owe_move rfl (wants_if 19 31 rfl (by kernel_rfl) rfl) (Or.inl rfl) (opnd_slot 4 2 rfl (by kernel_rfl)) rfl
    · exact owe_callh2 rfl (wants_if 19 31 rfl (by kernel_rfl) rfl) rfl ((opnd_op 20 32 (by kernel_rfl) rfl).imp (fun _ _ h => h)) ((opnd_op 21 33 (by kernel_rfl) rfl).imp (fun _ _ h => h)) (fresh_is _) rfl (fun args w => by go_simp) (fun w u v h h' => order_w w u v m l 1048576 1048576 _ _ h h' (by omega) (by omega) (by omega) (by omega))
    · exact owe_bin rfl (wants_if 19 31 rfl (by kernel_rfl) rfl) rfl (opnd_op 22 34 (by kernel_rfl) rfl) (opnd_const _) rfl (fun ρ w h1 h2 => by exact run_lss_int_f ρ _ _ _ w _ _ q2 h1 h2)
    · exact owe_pick rfl (wants_if 14 26 rfl (by kernel_rfl) rfl) rfl (opnd_op 19 31 (by kernel_rfl) rfl) (fun _ => (opnd_op 23 35 (by kernel_rfl) rfl)) (fun h => nomatch h) rfl
    · exact owe_move rfl (wants_if 14 26 rfl (by kernel_rfl) rfl) (Or.inl rfl) (opnd_op 24 36 (by kernel_rfl) rfl) rfl
    · exact owe_off 25 37 rfl rfl rfl (by kernel_rfl) rfl (by decide)
    · exact owe_off 25 37 rfl rfl rfl (by kernel_rfl) rfl (by decide)
    · exact owe_off 25 37 rfl rfl rfl (by kernel_rfl) rfl (by decide)
    · exact owe_off 25 37 rfl rfl rfl (by kernel_rfl) rfl (by decide)
    · exact owe_pick rfl (wants_if 14 26 rfl (by kernel_rfl) rfl) rfl (opnd_op 25 37 (by kernel_rfl) rfl) (fun h => nomatch h) (fun _ => (opnd_const _)) rfl
    · exact owe_pick rfl (wants_all rfl) rfl (opnd_op 14 26 (by kernel_rfl) rfl) (fun h => nomatch h) (fun _ => (opnd_op 30 42 (by kernel_rfl) rfl)) rfl
  intro B3 a3 W3 S3
  replace S3 : Sta w 91 [] [(43, (Is (.bool false))), (11, (Is (.bool false))), (6, (Is (.bool false))), (0, (Vv n As 1048576)), (1000001, TT)] B3 a3 W3 := S3
  refine wp_cond_false (S3.bool 0 43 rfl) ?_
  refine wp_skip ?_
  refine thenN ?_
  refine wp_stmt_seq [.val ((ZN (-1)) w.heap.size),
      .val (Vv n As 1048576),
      .val ((VN n ((As).map (fun a => (-1) * a))) w.heap.size),
      .val ((VN n ((As).map (fun a => (-1) * a))) w.heap.size)] [] [.inl 3, .inr 0, .inr 1, .inr 2, .inr 3, .inr 4] follows S3 rfl (by kernel_rfl) ?_ ?_
  · refine ⟨⟨⟨⟨trivial, ?_⟩, ?_⟩, ?_⟩, ?_⟩
    · exact owe_call1 rfl (wants_all rfl) rfl (opnd_const _) (fresh_zn _) rfl (fun args w => by go_simp) (g_zof (-1) (by decide) (by decide))
    · exact owe_move rfl (wants_all rfl) (Or.inl rfl) (opnd_slot 3 0 rfl (by kernel_rfl)) rfl
    · exact owe_callh2 rfl (wants_all rfl) rfl ((opnd_op 0 44 (by kernel_rfl) rfl).imp (zn_zv d1)) ((opnd_op 1 45 (by kernel_rfl) rfl).imp (fun _ _ h => h)) fresh_vn rfl (fun args w => by go_simp) (fun w u v h h' => times_w w u v n 1048576 1 _ _ h h' (by omega) (by omega))
    · exact owe_move rfl (wants_all rfl) (Or.inr rfl) (opnd_op 2 46 (by kernel_rfl) rfl) rfl
  intro B4 a4 W4 S4
  replace S4 : Sta w 91 [] [(7, ((VN n ((As).map (fun a => (-1) * a))) w.heap.size)), (43, (Is (.bool false))), (11, (Is (.bool false))), (6, (Is (.bool false))), (0, (Vv n As 1048576)), (1000001, TT)] B4 a4 W4 := S4
  refine wp_stmt_seq [.val (Vv n As 1048576),
      .val (Is (.int .i64 (-1))),
      .val (Is (.int .i64 (-1)))] [] [.inl 2, .inr 0, .inr 1, .inr 2, .inr 3, .inr 4, .inr 5] follows S4 rfl (by kernel_rfl) ?_ ?_
  · refine ⟨⟨⟨trivial, ?_⟩, ?_⟩, ?_⟩
    · exact owe_move rfl (wants_all rfl) (Or.inl rfl) (opnd_slot 4 0 rfl (by kernel_rfl)) rfl
    · exact owe_callh1 rfl (wants_all rfl) rfl ((opnd_op 0 47 (by kernel_rfl) rfl).imp (fun _ _ h => h)) (fresh_is _) rfl (fun args w => by go_simp) (fun w u0 h0 => Gives.cast ((fun w u h => lead_w w u n 1048576 _ h (by omega) (by omega)) w u0 h0) (by rw [hl0]))
    · exact owe_move rfl (wants_all rfl) (Or.inr rfl) (opnd_op 1 48 (by kernel_rfl) rfl) rfl
  intro B5 a5 W5 S5
  replace S5 : Sta w 91 [] [(8, (Is (.int .i64 (-1)))), (7, ((VN n ((As).map (fun a => (-1) * a))) w.heap.size)), (43, (Is (.bool false))), (11, (Is (.bool false))), (6, (Is (.bool false))), (0, (Vv n As 1048576)), (1000001, TT)] B5 a5 W5 := S5
  refine wp_seq ?_
  refine wp_stmt_seq [.val (Vv n As 1048576),
      .val ((VN n (upZ (As))) w.heap.size),
      .val ((VN n ((As).map (fun a => (-1) * a))) w.heap.size),
      .val ((VN n (upZ ((As).map (fun a => (-1) * a)))) w.heap.size),
      .val (Is (.int .i64 (ordZ (upZ (As)) (upZ ((As).map (fun a => (-1) * a)))))),
      .val (Is (.bool false)),
      .val (Is (.bool false)),
      .val (Is (.int .i64 (-1))),
      .val ((VN n ((As).map (fun a => (-1) * a))) w.heap.size),
      .val (Is (.int .i64 (leadZ ((As).map (fun a => (-1) * a))))),
      .val (Is (.bool false)),
      .val (Is (.bool false)),
      .val (Is (.bool false)),
      .val (Is (.int .i64 (-1))),
      .val (Vv n As 1048576),
      .val (Is (.int .i64 (n : Nat))),
      .val (Is (.bool false)),
      .val (Is (.bool false)),
      .val (Is (.bool false)),
      .val ((VN n ((As).map (fun a => (-1) * a))) w.heap.size),
      .val (Is (.int .i64 (n : Nat))),
      .val (Vv n As 1048576),
      .val (Is (.int .i64 (n : Nat))),
      .val (Is (.bool false)),
      .val (Is (.bool false))] [] [.inl 24, .inr 0, .inr 2, .inr 3, .inr 4, .inr 5, .inr 6] follows S5 rfl (by kernel_rfl) ?_ ?_
  · refine ⟨⟨⟨⟨⟨⟨⟨⟨⟨⟨⟨⟨⟨⟨⟨⟨⟨⟨⟨⟨⟨⟨⟨⟨⟨trivial, ?_⟩, ?_⟩, ?_⟩, ?_⟩, ?_⟩, ?_⟩, ?_⟩, ?_⟩, ?_⟩, ?_⟩, ?_⟩, ?_⟩, ?_⟩, ?_⟩, ?_⟩, ?_⟩, ?_⟩, ?_⟩, ?_⟩, ?_⟩, ?_⟩, ?_⟩, ?_⟩, ?_⟩, ?_⟩
    · exact owe_move rfl (wants_all rfl) (Or.inl rfl) (opnd_slot 5 0 rfl (by kernel_rfl)) rfl
    · exact owe_callh1 rfl (wants_all rfl) rfl ((opnd_op 0 49 (by kernel_rfl) rfl).imp (fun _ _ h => h)) fresh_vn rfl (fun args w => by go_simp) (fun w u h => up_w w u n 1048576 _ h (by omega) (by omega))
    · exact owe_move rfl (wants_all rfl) (Or.inl rfl) (opnd_slot 1 7 rfl (by kernel_rfl)) rfl
    · exact owe_callh1 rfl (wants_all rfl) rfl ((opnd_op 2 51 (by kernel_rfl) rfl).imp (vn_vv hNd)) fresh_vn rfl (fun args w => by go_simp) (fun w u h => up_w w u n 1048576 _ h (by omega) (by omega))
    · exact owe_callh2 rfl (wants_all rfl) rfl ((opnd_op 1 50 (by kernel_rfl) rfl).imp (vn_vv hUd)) ((opnd_op 3 52 (by kernel_rfl) rfl).imp (vn_vv hUNd)) (fresh_is _) rfl (fun args w => by go_simp) (fun w u v h h' => order_w w u v n n 1048576 1048576 _ _ h h' (by omega) (by omega) (by omega) (by omega))
    · exact owe_bin rfl (wants_all rfl) rfl (opnd_op 4 53 (by kernel_rfl) rfl) (opnd_const _) rfl (fun ρ w h1 h2 => by exact run_neq_int_f ρ _ _ _ w _ _ zz4 h1 h2)
    · exact owe_move rfl (wants_all rfl) (Or.inl rfl) (opnd_op 5 54 (by kernel_rfl) rfl) rfl
    · exact owe_move rfl (wants_if 6 55 rfl (by kernel_rfl) rfl) (Or.inl rfl) (opnd_slot 0 8 rfl (by kernel_rfl)) rfl
    · exact owe_move rfl (wants_if 6 55 rfl (by kernel_rfl) rfl) (Or.inl rfl) (opnd_slot 1 7 rfl (by kernel_rfl)) rfl
    · exact owe_callh1 rfl (wants_if 6 55 rfl (by kernel_rfl) rfl) rfl ((opnd_op 8 57 (by kernel_rfl) rfl).imp (vn_vv hNd)) (fresh_is _) rfl (fun args w => by go_simp) (fun w u h => lead_w w u n 1048576 _ h (by omega) (by omega))
    · exact owe_bin rfl (wants_if 6 55 rfl (by kernel_rfl) rfl) rfl (opnd_op 7 56 (by kernel_rfl) rfl) (opnd_op 9 58 (by kernel_rfl) rfl) rfl (fun ρ w h1 h2 => by exact run_neq_int_f ρ _ _ _ w _ _ (by rw [← zz5, hl0]) h1 h2)
    · exact owe_pick rfl (wants_all rfl) rfl (opnd_op 6 55 (by kernel_rfl) rfl) (fun h => nomatch h) (fun _ => (opnd_op 10 59 (by kernel_rfl) rfl)) rfl
    · exact owe_move rfl (wants_all rfl) (Or.inl rfl) (opnd_op 11 60 (by kernel_rfl) rfl) rfl
    · exact owe_move rfl (wants_if 12 61 rfl (by kernel_rfl) rfl) (Or.inl rfl) (opnd_slot 0 8 rfl (by kernel_rfl)) rfl
    · exact owe_move rfl (wants_if 12 61 rfl (by kernel_rfl) rfl) (Or.inl rfl) (opnd_slot 5 0 rfl (by kernel_rfl)) rfl
    · exact owe_len rfl (wants_if 12 61 rfl (by kernel_rfl) rfl) rfl (opnd_op 14 63 (by kernel_rfl) rfl) ar_len Tryd.underlying23 rfl
    · exact owe_bin rfl (wants_if 12 61 rfl (by kernel_rfl) rfl) rfl (opnd_op 13 62 (by kernel_rfl) rfl) (opnd_op 15 64 (by kernel_rfl) rfl) rfl (fun ρ w h1 h2 => by exact run_geq_int_f ρ _ _ _ w _ _ (by omega) h1 h2)
    · exact owe_pick rfl (wants_all rfl) rfl (opnd_op 12 61 (by kernel_rfl) rfl) (fun h => nomatch h) (fun _ => (opnd_op 16 65 (by kernel_rfl) rfl)) rfl
    · exact owe_move rfl (wants_all rfl) (Or.inl rfl) (opnd_op 17 66 (by kernel_rfl) rfl) rfl
    · exact owe_move rfl (wants_if 18 67 rfl (by kernel_rfl) rfl) (Or.inl rfl) (opnd_slot 1 7 rfl (by kernel_rfl)) rfl
    · exact owe_len rfl (wants_if 18 67 rfl (by kernel_rfl) rfl) rfl (opnd_op 19 68 (by kernel_rfl) rfl) lf_len Tryd.underlying23 rfl
    · exact owe_move rfl (wants_if 18 67 rfl (by kernel_rfl) rfl) (Or.inl rfl) (opnd_slot 5 0 rfl (by kernel_rfl)) rfl
    · exact owe_len rfl (wants_if 18 67 rfl (by kernel_rfl) rfl) rfl (opnd_op 21 70 (by kernel_rfl) rfl) ar_len Tryd.underlying23 rfl
    · exact owe_bin rfl (wants_if 18 67 rfl (by kernel_rfl) rfl) rfl (opnd_op 20 69 (by kernel_rfl) rfl) (opnd_op 22 71 (by kernel_rfl) rfl) rfl (fun ρ w h1 h2 => by exact run_neq_int_f ρ _ _ _ w _ _ rfl h1 h2)
    · exact owe_pick rfl (wants_all rfl) rfl (opnd_op 18 67 (by kernel_rfl) rfl) (fun h => nomatch h) (fun _ => (opnd_op 23 72 (by kernel_rfl) rfl)) rfl
  intro B6 a6 W6 S6
  replace S6 : Sta w 91 [] [(73, (Is (.bool false))), (8, (Is (.int .i64 (-1)))), (43, (Is (.bool false))), (11, (Is (.bool false))), (6, (Is (.bool false))), (0, (Vv n As 1048576)), (1000001, TT)] B6 a6 W6 := S6
  refine wp_cond_false (S6.bool 0 73 rfl) ?_
  refine wp_skip ?_
  refine thenN ?_
  refine wp_seq ?_
  refine wp_stmt_seq [.val (Is (.int .i64 (-1))),
      .val (Is (.bool true))] [] [.inl 1, .inr 0, .inr 1, .inr 2, .inr 3, .inr 4, .inr 5, .inr 6] follows S6 rfl (by kernel_rfl) ?_ ?_
  · refine ⟨⟨trivial, ?_⟩, ?_⟩
    · exact owe_move rfl (wants_all rfl) (Or.inl rfl) (opnd_slot 1 8 rfl (by kernel_rfl)) rfl
    · exact owe_bin rfl (wants_all rfl) rfl (opnd_op 0 74 (by kernel_rfl) rfl) (opnd_const _) rfl (fun ρ w h1 h2 => by exact run_lss_int_t ρ _ _ _ w _ _ (by decide) h1 h2)
  intro B7 a7 W7 S7
  replace S7 : Sta w 91 [] [(75, (Is (.bool true))), (73, (Is (.bool false))), (8, (Is (.int .i64 (-1)))), (43, (Is (.bool false))), (11, (Is (.bool false))), (6, (Is (.bool false))), (0, (Vv n As 1048576)), (1000001, TT)] B7 a7 W7 := S7
  refine wp_cond_true (S7.bool 0 75 rfl) ?_
  refine wp_stmt_seq [.val (Is (.bool true))] [] [.inl 0, .inr 0, .inr 1, .inr 2, .inr 3, .inr 4, .inr 6, .inr 7] follows S7 rfl (by kernel_rfl) ?_ ?_
  · refine ⟨trivial, ?_⟩
    · exact owe_move rfl (wants_all rfl) (Or.inr rfl) (opnd_const _) rfl
  intro B8 a8 W8 S8
  replace S8 : Sta w 91 [] [(6, (Is (.bool true))), (75, (Is (.bool true))), (73, (Is (.bool false))), (8, (Is (.int .i64 (-1)))), (43, (Is (.bool false))), (11, (Is (.bool false))), (0, (Vv n As 1048576)), (1000001, TT)] B8 a8 W8 := S8
  refine wp_ret ?_
  refine thenR ?_
  exact end_one S8 rfl (res_tmp S8 0 6 rfl)

set_option maxHeartbeats 4000000 in
theorem line_y1 (w : World) (u v x : Value) (n m l : Nat) (As Bs Cs : List Int) (h : Hs w (Vv n As 1048576) u) (h' : Hs w (Vv m Bs 1048576) v) (h'' : Hs w (Vv l Cs 1048576) x) (hn : n ≤ 1048576) (hm : m ≤ 1048576) (hl : l ≤ 1048576) (hT : Tab w) (q1 : ordZ As Bs < 0) (q2 : 0 ≤ ordZ Bs Cs) (k0 : Nat) (hl0 : leadZ As = (k0 : Nat)) (hk0 : k0 < n) (x0 : Int) (hx0 : (upZ As)[k0]? = some x0) (hx1 : 0 < x0) :
    Calls Tryd.prog 5 #[u, v, x] w (Gives (IS (.bool true)) w) := by
  have hlA := vv_len h.now
  have hd : Dl As 1048576 := vv_dl h.now
  have hNd : Dl ((As).map (fun a => (-1) * a)) 1048576 := dl_unit (by decide) hd
  have hUd : Dl (upZ (As)) 1048576 := dl_up hd
  have hUNd : Dl (upZ ((As).map (fun a => (-1) * a))) 1048576 := dl_up hNd
  have d1 : (digs (-1 : Int).natAbs).length ≤ 1 := dl_small (by decide)
  have zz1 := ord_anti As Bs
  have zz2 := ord_refl As
  have zz4 : ordZ (upZ As) (upZ ((As).map (fun a => (-1) * a))) = 0 := by rw [up_neg]; exact ord_refl _
  have zz5 : leadZ As = leadZ ((As).map (fun a => (-1) * a)) := (lead_neg As).symm
  have o1 := ord_rng As Bs
  have o2 := ord_rng Bs As
  have dx : (digs x0.natAbs).length ≤ 1048576 := hUd k0 x0 hx0
  refine calls_sta (sl := [(0, (Vv n As 1048576)), (1, (Vv m Bs 1048576)), (2, (Vv l Cs 1048576))]) Tryd.func5 rfl Tryd.ntmps5 (by simp) (args_cons rfl (h) (args_cons rfl (h') (args_cons rfl (h'') args_nil))) ?_
  intro a0 S0
  replace S0 : Sta w 91 [] [(0, (Vv n As 1048576)), (1, (Vv m Bs 1048576)), (2, (Vv l Cs 1048576)), (1000001, TT)] (fun _ => False) a0 w := S0.moreT 1000001 (tt_has hT)
  refine wp_stmt_seq [.val (Is (.bool false))] [] [.inl 0, .inr 0, .inr 1, .inr 2, .inr 3] follows S0 rfl (by kernel_rfl) ?_ ?_
  · refine ⟨trivial, ?_⟩
    · exact owe_move rfl (wants_all rfl) (Or.inr rfl) (opnd_const _) rfl
  intro B1 a1 W1 S1
  replace S1 : Sta w 91 [] [(6, (Is (.bool false))), (0, (Vv n As 1048576)), (1, (Vv m Bs 1048576)), (2, (Vv l Cs 1048576)), (1000001, TT)] B1 a1 W1 := S1
  refine wp_seq ?_
  refine wp_stmt_seq [.val (Is (.bool true)),
      .val (Is (.bool false))] [] [.inl 1, .inr 0, .inr 1, .inr 2, .inr 3, .inr 4] follows S1 rfl (by kernel_rfl) ?_ ?_
  · refine ⟨⟨trivial, ?_⟩, ?_⟩
    · exact owe_call0T rfl (wants_all rfl) rfl (opnd_slot 4 1000001 rfl (by kernel_rfl)) (fresh_is _) rfl (fun args w => by go_simp) alive_w
    · exact owe_un (x := .tmp 10) rfl (wants_all rfl) rfl (opnd_op 0 10 (by kernel_rfl) rfl) rfl (fun ρ w h1 => run_not ρ _ _ w _ h1)
  intro B2 a2 W2 S2
  replace S2 : Sta w 91 [] [(11, (Is (.bool false))), (6, (Is (.bool false))), (0, (Vv n As 1048576)), (1, (Vv m Bs 1048576)), (2, (Vv l Cs 1048576)), (1000001, TT)] B2 a2 W2 := S2
  refine wp_cond_false (S2.bool 0 11 rfl) ?_
  refine wp_skip ?_
  refine thenN ?_
  refine wp_seq ?_
  refine wp_stmt_seq [.val (Vv n As 1048576),
      .val (Vv m Bs 1048576),
      .val (Is (.int .i64 (ordZ (As) (Bs)))),
      .val (Vv m Bs 1048576),
      .val (Vv n As 1048576),
      .val (Is (.int .i64 (ordZ (Bs) (As)))),
      .val (Is (.int .i64 (-(ordZ (Bs) (As))))),
      .val (Is (.bool false)),
      .val (Is (.bool false)),
      .val (Vv n As 1048576),
      .val (Vv n As 1048576),
      .val (Is (.int .i64 (ordZ (As) (As)))),
      .val (Is (.bool false)),
      .val (Is (.bool false)),
      .val (Is (.bool false)),
      .val (Vv n As 1048576),
      .val (Vv m Bs 1048576),
      .val (Is (.int .i64 (ordZ (As) (Bs)))),
      .val (Is (.bool true)),
      .val (Is (.bool true)),
      .val (Vv m Bs 1048576),
      .val (Vv l Cs 1048576),
      .val (Is (.int .i64 (ordZ (Bs) (Cs)))),
      .val (Is (.bool false)),
      .val (Is (.bool false)),
      .val (Is (.bool false)),
      .off,
      .off,
      .off,
      .off,
      .val (Is (.bool false)),
      .val (Is (.bool false))] [] [.inl 31, .inr 0, .inr 1, .inr 2, .inr 5] follows S2 rfl (by kernel_rfl) ?_ ?_
  · refine ⟨⟨⟨⟨⟨⟨⟨⟨⟨⟨⟨⟨⟨⟨⟨⟨⟨⟨⟨⟨⟨⟨⟨⟨⟨⟨⟨⟨⟨⟨⟨⟨trivial, ?_⟩, ?_⟩, ?_⟩, ?_⟩, ?_⟩, ?_⟩, ?_⟩, ?_⟩, ?_⟩, ?_⟩, ?_⟩, ?_⟩, ?_⟩, ?_⟩, ?_⟩, ?_⟩, ?_⟩, ?_⟩, ?_⟩, ?_⟩, ?_⟩, ?_⟩, ?_⟩, ?_⟩, ?_⟩, ?_⟩, ?_⟩, ?_⟩, ?_⟩, ?_⟩, ?_⟩, ?_⟩
    · exact owe_move rfl (wants_all rfl) (Or.inl rfl) (opnd_slot 2 0 rfl (by kernel_rfl)) rfl
    · exact owe_move rfl (wants_all rfl) (Or.inl rfl) (opnd_slot 3 1 rfl (by kernel_rfl)) rfl
    · exact owe_callh2 rfl (wants_all rfl) rfl ((opnd_op 0 12 (by kernel_rfl) rfl).imp (fun _ _ h => h)) ((opnd_op 1 13 (by kernel_rfl) rfl).imp (fun _ _ h => h)) (fresh_is _) rfl (fun args w => by go_simp) (fun w u v h h' => order_w w u v n m 1048576 1048576 _ _ h h' (by omega) (by omega) (by omega) (by omega))
    · exact owe_move rfl (wants_all rfl) (Or.inl rfl) (opnd_slot 3 1 rfl (by kernel_rfl)) rfl
    · exact owe_move rfl (wants_all rfl) (Or.inl rfl) (opnd_slot 2 0 rfl (by kernel_rfl)) rfl
    · exact owe_callh2 rfl (wants_all rfl) rfl ((opnd_op 3 15 (by kernel_rfl) rfl).imp (fun _ _ h => h)) ((opnd_op 4 16 (by kernel_rfl) rfl).imp (fun _ _ h => h)) (fresh_is _) rfl (fun args w => by go_simp) (fun w u v h h' => order_w w u v m n 1048576 1048576 _ _ h h' (by omega) (by omega) (by omega) (by omega))
    · exact owe_un (x := .tmp 17) rfl (wants_all rfl) rfl (opnd_op 5 17 (by kernel_rfl) rfl) rfl (fun ρ w h1 => run_neg_int ρ _ _ w _ _ ⟨rfl, by omega, by omega⟩ h1)
    · exact owe_bin rfl (wants_all rfl) rfl (opnd_op 2 14 (by kernel_rfl) rfl) (opnd_op 6 18 (by kernel_rfl) rfl) rfl (fun ρ w h1 h2 => by exact run_neq_int_f ρ _ _ _ w _ _ zz1 h1 h2)
    · exact owe_move rfl (wants_all rfl) (Or.inl rfl) (opnd_op 7 19 (by kernel_rfl) rfl) rfl
    · exact owe_move rfl (wants_if 8 20 rfl (by kernel_rfl) rfl) (Or.inl rfl) (opnd_slot 2 0 rfl (by kernel_rfl)) rfl
    · exact owe_move rfl (wants_if 8 20 rfl (by kernel_rfl) rfl) (Or.inl rfl) (opnd_slot 2 0 rfl (by kernel_rfl)) rfl
    · exact owe_callh2 rfl (wants_if 8 20 rfl (by kernel_rfl) rfl) rfl ((opnd_op 9 21 (by kernel_rfl) rfl).imp (fun _ _ h => h)) ((opnd_op 10 22 (by kernel_rfl) rfl).imp (fun _ _ h => h)) (fresh_is _) rfl (fun args w => by go_simp) (fun w u v h h' => order_w w u v n n 1048576 1048576 _ _ h h' (by omega) (by omega) (by omega) (by omega))
    · exact owe_bin rfl (wants_if 8 20 rfl (by kernel_rfl) rfl) rfl (opnd_op 11 23 (by kernel_rfl) rfl) (opnd_const _) rfl (fun ρ w h1 h2 => by exact run_neq_int_f ρ _ _ _ w _ _ zz2 h1 h2)
    · exact owe_pick rfl (wants_all rfl) rfl (opnd_op 8 20 (by kernel_rfl) rfl) (fun h => nomatch h) (fun _ => (opnd_op 12 24 (by kernel_rfl) rfl)) rfl
    · exact owe_move rfl (wants_all rfl) (Or.inl rfl) (opnd_op 13 25 (by kernel_rfl) rfl) rfl
    · exact owe_move rfl (wants_if 14 26 rfl (by kernel_rfl) rfl) (Or.inl rfl) (opnd_slot 2 0 rfl (by kernel_rfl)) rfl
    · exact owe_move rfl (wants_if 14 26 rfl (by kernel_rfl) rfl) (Or.inl rfl) (opnd_slot 3 1 rfl (by kernel_rfl)) rfl
    · exact owe_callh2 rfl (wants_if 14 26 rfl (by kernel_rfl) rfl) rfl ((opnd_op 15 27 (by kernel_rfl) rfl).imp (fun _ _ h => h)) ((opnd_op 16 28 (by kernel_rfl) rfl).imp (fun _ _ h => h)) (fresh_is _) rfl (fun args w => by go_simp) (fun w u v h h' => order_w w u v n m 1048576 1048576 _ _ h h' (by omega) (by omega) (by omega) (by omega))
    · exact owe_bin rfl (wants_if 14 26 rfl (by kernel_rfl) rfl) rfl (opnd_op 17 29 (by kernel_rfl) rfl) (opnd_const _) rfl (fun ρ w h1 h2 => by exact run_lss_int_t ρ _ _ _ w _ _ q1 h1 h2)
    · exact owe_move rfl (wants_if 14 26 rfl (by kernel_rfl) rfl) (Or.inl rfl) (opnd_op 18 30 (by kernel_rfl) rfl) rfl
    · exact owe_move rfl (wants_if 19 31 rfl (by kernel_rfl) rfl) (Or.inl rfl) (opnd_slot 3 1 rfl (by kernel_rfl)) rfl
    · exact owe_move rfl (wants_if 19 31 rfl (by kernel_rfl) rfl) (Or.inl rfl) (opnd_slot 4 2 rfl (by kernel_rfl)) rfl
    · exact owe_callh2 rfl (wants_if 19 31 rfl (by kernel_rfl) rfl) rfl ((opnd_op 20 32 (by kernel_rfl) rfl).imp (fun _ _ h => h)) ((opnd_op 21 33 (by kernel_rfl) rfl).imp (fun _ _ h => h)) (fresh_is _) rfl (fun args w => by go_simp) (fun w u v h h' => order_w w u v m l 1048576 1048576 _ _ h h' (by omega) (by omega) (by omega) (by omega))
    · exact owe_bin rfl (wants_if 19 31 rfl (by kernel_rfl) rfl) rfl (opnd_op 22 34 (by kernel_rfl) rfl) (opnd_const _) rfl (fun ρ w h1 h2 => by exact run_lss_int_f ρ _ _ _ w _ _ q2 h1 h2)
    · exact owe_pick rfl (wants_if 14 26 rfl (by kernel_rfl) rfl) rfl (opnd_op 19 31 (by kernel_rfl) rfl) (fun _ => (opnd_op 23 35 (by kernel_rfl) rfl)) (fun h => nomatch h) rfl
    · exact owe_move rfl (wants_if 14 26 rfl (by kernel_rfl) rfl) (Or.inl rfl) (opnd_op 24 36 (by kernel_rfl) rfl) rfl
    · exact owe_off 25 37 rfl rfl rfl (by kernel_rfl) rfl (by decide)
    · exact owe_off 25 37 rfl rfl rfl (by kernel_rfl) rfl (by decide)
    · exact owe_off 25 37 rfl rfl rfl (by kernel_rfl) rfl (by decide)
    · exact owe_off 25 37 rfl rfl rfl (by kernel_rfl) rfl (by decide)
    · exact owe_pick rfl (wants_if 14 26 rfl (by kernel_rfl) rfl) rfl (opnd_op 25 37 (by kernel_rfl) rfl) (fun h => nomatch h) (fun _ => (opnd_const _)) rfl
    · exact owe_pick rfl (wants_all rfl) rfl (opnd_op 14 26 (by kernel_rfl) rfl) (fun h => nomatch h) (fun _ => (opnd_op 30 42 (by kernel_rfl) rfl)) rfl
  intro B3 a3 W3 S3
  replace S3 : Sta w 91 [] [(43, (Is (.bool false))), (11, (Is (.bool false))), (6, (Is (.bool false))), (0, (Vv n As 1048576)), (1000001, TT)] B3 a3 W3 := S3
  refine wp_cond_false (S3.bool 0 43 rfl) ?_
  refine wp_skip ?_
  refine thenN ?_
  refine wp_stmt_seq [.val ((ZN (-1)) w.heap.size),
      .val (Vv n As 1048576),
      .val ((VN n ((As).map (fun a => (-1) * a))) w.heap.size),
      .val ((VN n ((As).map (fun a => (-1) * a))) w.heap.size)] [] [.inl 3, .inr 0, .inr 1, .inr 2, .inr 3, .inr 4] follows S3 rfl (by kernel_rfl) ?_ ?_
  · refine ⟨⟨⟨⟨trivial, ?_⟩, ?_⟩, ?_⟩, ?_⟩
    · exact owe_call1 rfl (wants_all rfl) rfl (opnd_const _) (fresh_zn _) rfl (fun args w => by go_simp) (g_zof (-1) (by decide) (by decide))
    · exact owe_move rfl (wants_all rfl) (Or.inl rfl) (opnd_slot 3 0 rfl (by kernel_rfl)) rfl
    · exact owe_callh2 rfl (wants_all rfl) rfl ((opnd_op 0 44 (by kernel_rfl) rfl).imp (zn_zv d1)) ((opnd_op 1 45 (by kernel_rfl) rfl).imp (fun _ _ h => h)) fresh_vn rfl (fun args w => by go_simp) (fun w u v h h' => times_w w u v n 1048576 1 _ _ h h' (by omega) (by omega))
    · exact owe_move rfl (wants_all rfl) (Or.inr rfl) (opnd_op 2 46 (by kernel_rfl) rfl) rfl
  intro B4 a4 W4 S4
  replace S4 : Sta w 91 [] [(7, ((VN n ((As).map (fun a => (-1) * a))) w.heap.size)), (43, (Is (.bool false))), (11, (Is (.bool false))), (6, (Is (.bool false))), (0, (Vv n As 1048576)), (1000001, TT)] B4 a4 W4 := S4
  refine wp_stmt_seq [.val (Vv n As 1048576),
      .val (Is (.int .i64 (k0 : Nat))),
      .val (Is (.int .i64 (k0 : Nat)))] [] [.inl 2, .inr 0, .inr 1, .inr 2, .inr 3, .inr 4, .inr 5] follows S4 rfl (by kernel_rfl) ?_ ?_
  · refine ⟨⟨⟨trivial, ?_⟩, ?_⟩, ?_⟩
    · exact owe_move rfl (wants_all rfl) (Or.inl rfl) (opnd_slot 4 0 rfl (by kernel_rfl)) rfl
    · exact owe_callh1 rfl (wants_all rfl) rfl ((opnd_op 0 47 (by kernel_rfl) rfl).imp (fun _ _ h => h)) (fresh_is _) rfl (fun args w => by go_simp) (fun w u0 h0 => Gives.cast ((fun w u h => lead_w w u n 1048576 _ h (by omega) (by omega)) w u0 h0) (by rw [hl0]))
    · exact owe_move rfl (wants_all rfl) (Or.inr rfl) (opnd_op 1 48 (by kernel_rfl) rfl) rfl
  intro B5 a5 W5 S5
  replace S5 : Sta w 91 [] [(8, (Is (.int .i64 (k0 : Nat)))), (7, ((VN n ((As).map (fun a => (-1) * a))) w.heap.size)), (43, (Is (.bool false))), (11, (Is (.bool false))), (6, (Is (.bool false))), (0, (Vv n As 1048576)), (1000001, TT)] B5 a5 W5 := S5
  refine wp_seq ?_
  refine wp_stmt_seq [.val (Vv n As 1048576),
      .val ((VN n (upZ (As))) w.heap.size),
      .val ((VN n ((As).map (fun a => (-1) * a))) w.heap.size),
      .val ((VN n (upZ ((As).map (fun a => (-1) * a)))) w.heap.size),
      .val (Is (.int .i64 (ordZ (upZ (As)) (upZ ((As).map (fun a => (-1) * a)))))),
      .val (Is (.bool false)),
      .val (Is (.bool false)),
      .val (Is (.int .i64 (k0 : Nat))),
      .val ((VN n ((As).map (fun a => (-1) * a))) w.heap.size),
      .val (Is (.int .i64 (leadZ ((As).map (fun a => (-1) * a))))),
      .val (Is (.bool false)),
      .val (Is (.bool false)),
      .val (Is (.bool false)),
      .val (Is (.int .i64 (k0 : Nat))),
      .val (Vv n As 1048576),
      .val (Is (.int .i64 (n : Nat))),
      .val (Is (.bool false)),
      .val (Is (.bool false)),
      .val (Is (.bool false)),
      .val ((VN n ((As).map (fun a => (-1) * a))) w.heap.size),
      .val (Is (.int .i64 (n : Nat))),
      .val (Vv n As 1048576),
      .val (Is (.int .i64 (n : Nat))),
      .val (Is (.bool false)),
      .val (Is (.bool false))] [] [.inl 24, .inr 0, .inr 2, .inr 3, .inr 4, .inr 5, .inr 6] follows S5 rfl (by kernel_rfl) ?_ ?_
  · refine ⟨⟨⟨⟨⟨⟨⟨⟨⟨⟨⟨⟨⟨⟨⟨⟨⟨⟨⟨⟨⟨⟨⟨⟨⟨trivial, ?_⟩, ?_⟩, ?_⟩, ?_⟩, ?_⟩, ?_⟩, ?_⟩, ?_⟩, ?_⟩, ?_⟩, ?_⟩, ?_⟩, ?_⟩, ?_⟩, ?_⟩, ?_⟩, ?_⟩, ?_⟩, ?_⟩, ?_⟩, ?_⟩, ?_⟩, ?_⟩, ?_⟩, ?_⟩
    · exact owe_move rfl (wants_all rfl) (Or.inl rfl) (opnd_slot 5 0 rfl (by kernel_rfl)) rfl
    · exact owe_callh1 rfl (wants_all rfl) rfl ((opnd_op 0 49 (by kernel_rfl) rfl).imp (fun _ _ h => h)) fresh_vn rfl (fun args w => by go_simp) (fun w u h => up_w w u n 1048576 _ h (by omega) (by omega))
    · exact owe_move rfl (wants_all rfl) (Or.inl rfl) (opnd_slot 1 7 rfl (by kernel_rfl)) rfl
    · exact owe_callh1 rfl (wants_all rfl) rfl ((opnd_op 2 51 (by kernel_rfl) rfl).imp (vn_vv hNd)) fresh_vn rfl (fun args w => by go_simp) (fun w u h => up_w w u n 1048576 _ h (by omega) (by omega))
    · exact owe_callh2 rfl (wants_all rfl) rfl ((opnd_op 1 50 (by kernel_rfl) rfl).imp (vn_vv hUd)) ((opnd_op 3 52 (by kernel_rfl) rfl).imp (vn_vv hUNd)) (fresh_is _) rfl (fun args w => by go_simp) (fun w u v h h' => order_w w u v n n 1048576 1048576 _ _ h h' (by omega) (by omega) (by omega) (by omega))
    · exact owe_bin rfl (wants_all rfl) rfl (opnd_op 4 53 (by kernel_rfl) rfl) (opnd_const _) rfl (fun ρ w h1 h2 => by exact run_neq_int_f ρ _ _ _ w _ _ zz4 h1 h2)
    · exact owe_move rfl (wants_all rfl) (Or.inl rfl) (opnd_op 5 54 (by kernel_rfl) rfl) rfl
    · exact owe_move rfl (wants_if 6 55 rfl (by kernel_rfl) rfl) (Or.inl rfl) (opnd_slot 0 8 rfl (by kernel_rfl)) rfl
    · exact owe_move rfl (wants_if 6 55 rfl (by kernel_rfl) rfl) (Or.inl rfl) (opnd_slot 1 7 rfl (by kernel_rfl)) rfl
    · exact owe_callh1 rfl (wants_if 6 55 rfl (by kernel_rfl) rfl) rfl ((opnd_op 8 57 (by kernel_rfl) rfl).imp (vn_vv hNd)) (fresh_is _) rfl (fun args w => by go_simp) (fun w u h => lead_w w u n 1048576 _ h (by omega) (by omega))
    · exact owe_bin rfl (wants_if 6 55 rfl (by kernel_rfl) rfl) rfl (opnd_op 7 56 (by kernel_rfl) rfl) (opnd_op 9 58 (by kernel_rfl) rfl) rfl (fun ρ w h1 h2 => by exact run_neq_int_f ρ _ _ _ w _ _ (by rw [← zz5, hl0]) h1 h2)
    · exact owe_pick rfl (wants_all rfl) rfl (opnd_op 6 55 (by kernel_rfl) rfl) (fun h => nomatch h) (fun _ => (opnd_op 10 59 (by kernel_rfl) rfl)) rfl
    · exact owe_move rfl (wants_all rfl) (Or.inl rfl) (opnd_op 11 60 (by kernel_rfl) rfl) rfl
    · exact owe_move rfl (wants_if 12 61 rfl (by kernel_rfl) rfl) (Or.inl rfl) (opnd_slot 0 8 rfl (by kernel_rfl)) rfl
    · exact owe_move rfl (wants_if 12 61 rfl (by kernel_rfl) rfl) (Or.inl rfl) (opnd_slot 5 0 rfl (by kernel_rfl)) rfl
    · exact owe_len rfl (wants_if 12 61 rfl (by kernel_rfl) rfl) rfl (opnd_op 14 63 (by kernel_rfl) rfl) ar_len Tryd.underlying23 rfl
    · exact owe_bin rfl (wants_if 12 61 rfl (by kernel_rfl) rfl) rfl (opnd_op 13 62 (by kernel_rfl) rfl) (opnd_op 15 64 (by kernel_rfl) rfl) rfl (fun ρ w h1 h2 => by exact run_geq_int_f ρ _ _ _ w _ _ (by omega) h1 h2)
    · exact owe_pick rfl (wants_all rfl) rfl (opnd_op 12 61 (by kernel_rfl) rfl) (fun h => nomatch h) (fun _ => (opnd_op 16 65 (by kernel_rfl) rfl)) rfl
    · exact owe_move rfl (wants_all rfl) (Or.inl rfl) (opnd_op 17 66 (by kernel_rfl) rfl) rfl
    · exact owe_move rfl (wants_if 18 67 rfl (by kernel_rfl) rfl) (Or.inl rfl) (opnd_slot 1 7 rfl (by kernel_rfl)) rfl
    · exact owe_len rfl (wants_if 18 67 rfl (by kernel_rfl) rfl) rfl (opnd_op 19 68 (by kernel_rfl) rfl) lf_len Tryd.underlying23 rfl
    · exact owe_move rfl (wants_if 18 67 rfl (by kernel_rfl) rfl) (Or.inl rfl) (opnd_slot 5 0 rfl (by kernel_rfl)) rfl
    · exact owe_len rfl (wants_if 18 67 rfl (by kernel_rfl) rfl) rfl (opnd_op 21 70 (by kernel_rfl) rfl) ar_len Tryd.underlying23 rfl
    · exact owe_bin rfl (wants_if 18 67 rfl (by kernel_rfl) rfl) rfl (opnd_op 20 69 (by kernel_rfl) rfl) (opnd_op 22 71 (by kernel_rfl) rfl) rfl (fun ρ w h1 h2 => by exact run_neq_int_f ρ _ _ _ w _ _ rfl h1 h2)
    · exact owe_pick rfl (wants_all rfl) rfl (opnd_op 18 67 (by kernel_rfl) rfl) (fun h => nomatch h) (fun _ => (opnd_op 23 72 (by kernel_rfl) rfl)) rfl
  intro B6 a6 W6 S6
  replace S6 : Sta w 91 [] [(73, (Is (.bool false))), (8, (Is (.int .i64 (k0 : Nat)))), (43, (Is (.bool false))), (11, (Is (.bool false))), (6, (Is (.bool false))), (0, (Vv n As 1048576)), (1000001, TT)] B6 a6 W6 := S6
  refine wp_cond_false (S6.bool 0 73 rfl) ?_
  refine wp_skip ?_
  refine thenN ?_
  refine wp_seq ?_
  refine wp_stmt_seq [.val (Is (.int .i64 (k0 : Nat))),
      .val (Is (.bool false))] [] [.inl 1, .inr 0, .inr 1, .inr 2, .inr 3, .inr 4, .inr 5, .inr 6] follows S6 rfl (by kernel_rfl) ?_ ?_
  · refine ⟨⟨trivial, ?_⟩, ?_⟩
    · exact owe_move rfl (wants_all rfl) (Or.inl rfl) (opnd_slot 1 8 rfl (by kernel_rfl)) rfl
    · exact owe_bin rfl (wants_all rfl) rfl (opnd_op 0 74 (by kernel_rfl) rfl) (opnd_const _) rfl (fun ρ w h1 h2 => by exact run_lss_int_f ρ _ _ _ w _ _ (by omega) h1 h2)
  intro B7 a7 W7 S7
  replace S7 : Sta w 91 [] [(75, (Is (.bool false))), (73, (Is (.bool false))), (8, (Is (.int .i64 (k0 : Nat)))), (43, (Is (.bool false))), (11, (Is (.bool false))), (6, (Is (.bool false))), (0, (Vv n As 1048576)), (1000001, TT)] B7 a7 W7 := S7
  refine wp_cond_false (S7.bool 0 75 rfl) ?_
  refine wp_skip ?_
  refine thenN ?_
  refine wp_stmt_seq [.val (Vv n As 1048576),
      .val ((VN n (upZ (As))) w.heap.size),
      .val ((VN n (upZ (As))) w.heap.size)] [] [.inl 2, .inr 0, .inr 1, .inr 2, .inr 3, .inr 4, .inr 5, .inr 6, .inr 7] follows S7 rfl (by kernel_rfl) ?_ ?_
  · refine ⟨⟨⟨trivial, ?_⟩, ?_⟩, ?_⟩
    · exact owe_move rfl (wants_all rfl) (Or.inl rfl) (opnd_slot 6 0 rfl (by kernel_rfl)) rfl
    · exact owe_callh1 rfl (wants_all rfl) rfl ((opnd_op 0 76 (by kernel_rfl) rfl).imp (fun _ _ h => h)) fresh_vn rfl (fun args w => by go_simp) (fun w u h => up_w w u n 1048576 _ h (by omega) (by omega))
    · exact owe_move rfl (wants_all rfl) (Or.inr rfl) (opnd_op 1 77 (by kernel_rfl) rfl) rfl
  intro B8 a8 W8 S8
  replace S8 : Sta w 91 [] [(9, ((VN n (upZ (As))) w.heap.size)), (75, (Is (.bool false))), (73, (Is (.bool false))), (8, (Is (.int .i64 (k0 : Nat)))), (43, (Is (.bool false))), (11, (Is (.bool false))), (6, (Is (.bool false))), (0, (Vv n As 1048576)), (1000001, TT)] B8 a8 W8 := S8
  refine wp_stmt_seq [.val ((VN n (upZ (As))) w.heap.size),
      .val (Is (.int .i64 (n : Nat))),
      .val (Vv n As 1048576),
      .val (Is (.int .i64 (n : Nat))),
      .val (Is (.bool true)),
      .val (Is (.bool true)),
      .val ((VN n (upZ (As))) w.heap.size),
      .val (Is (.int .i64 (k0 : Nat))),
      .val (AtE 2 ((ZN (x0)) w.heap.size)),
      .val ((ZN (x0)) w.heap.size),
      .val (Is (.int .i64 (x0).sign)),
      .val (Is (.bool true)),
      .val (Is (.bool true)),
      .val (Is (.bool true))] [] [.inl 13, .inr 1, .inr 2, .inr 3, .inr 4, .inr 5, .inr 7, .inr 8] follows S8 rfl (by kernel_rfl) ?_ ?_
  · refine ⟨⟨⟨⟨⟨⟨⟨⟨⟨⟨⟨⟨⟨⟨trivial, ?_⟩, ?_⟩, ?_⟩, ?_⟩, ?_⟩, ?_⟩, ?_⟩, ?_⟩, ?_⟩, ?_⟩, ?_⟩, ?_⟩, ?_⟩, ?_⟩
    · exact owe_move rfl (wants_all rfl) (Or.inl rfl) (opnd_slot 0 9 rfl (by kernel_rfl)) rfl
    · exact owe_len rfl (wants_all rfl) rfl (opnd_op 0 78 (by kernel_rfl) rfl) lf_len Tryd.underlying23 rfl
    · exact owe_move rfl (wants_all rfl) (Or.inl rfl) (opnd_slot 7 0 rfl (by kernel_rfl)) rfl
    · exact owe_len rfl (wants_all rfl) rfl (opnd_op 2 80 (by kernel_rfl) rfl) ar_len Tryd.underlying23 rfl
    · exact owe_bin rfl (wants_all rfl) rfl (opnd_op 1 79 (by kernel_rfl) rfl) (opnd_op 3 81 (by kernel_rfl) rfl) rfl (fun ρ w h1 h2 => by exact run_eql_int_t ρ _ _ _ w _ _ rfl h1 h2)
    · exact owe_move rfl (wants_all rfl) (Or.inl rfl) (opnd_op 4 82 (by kernel_rfl) rfl) rfl
    · exact owe_move rfl (wants_if 5 83 rfl (by kernel_rfl) rfl) (Or.inl rfl) (opnd_slot 0 9 rfl (by kernel_rfl)) rfl
    · exact owe_move rfl (wants_if 5 83 rfl (by kernel_rfl) rfl) (Or.inl rfl) (opnd_slot 3 8 rfl (by kernel_rfl)) rfl
    · exact owe_aindex rfl (wants_if 5 83 rfl (by kernel_rfl) rfl) rfl idx_ints ((opnd_op 6 84 (by kernel_rfl) rfl).imp lf_ar) (opnd_op 7 85 (by kernel_rfl) rfl) (map_get' (· w.heap.size) (map_get' ZN hx0)) rfl
    · exact owe_aload rfl (wants_if 5 83 rfl (by kernel_rfl) rfl) rfl ldr_int (by decide) (cel_shp (by decide) shp_zn) (opnd_op 8 86 (by kernel_rfl) rfl) rfl
    · exact owe_call1 rfl (wants_if 5 83 rfl (by kernel_rfl) rfl) rfl (opnd_op 9 87 (by kernel_rfl) rfl) (fresh_is _) rfl (fun args w => by go_simp) (fun w u h => g_rsign (by omega) w u ((zn_zv dx) _ _ h))
    · exact owe_bin rfl (wants_if 5 83 rfl (by kernel_rfl) rfl) rfl (opnd_op 10 88 (by kernel_rfl) rfl) (opnd_const _) rfl (fun ρ w h1 h2 => by exact run_gtr_int_t ρ _ _ _ w _ _ (sign_gt hx1) h1 h2)
    · exact owe_pick rfl (wants_all rfl) rfl (opnd_op 5 83 (by kernel_rfl) rfl) (fun _ => (opnd_op 11 89 (by kernel_rfl) rfl)) (fun h => nomatch h) rfl
    · exact owe_move rfl (wants_all rfl) (Or.inr rfl) (opnd_op 12 90 (by kernel_rfl) rfl) rfl
  intro B9 a9 W9 S9
  replace S9 : Sta w 91 [] [(6, (Is (.bool true))), (75, (Is (.bool false))), (73, (Is (.bool false))), (8, (Is (.int .i64 (k0 : Nat)))), (43, (Is (.bool false))), (11, (Is (.bool false))), (0, (Vv n As 1048576)), (1000001, TT)] B9 a9 W9 := S9
  refine wp_ret ?_
  exact end_one S9 rfl (res_tmp S9 0 6 rfl)

set_option maxHeartbeats 4000000 in
theorem line_t0 (w : World) (u v x : Value) (n m l : Nat) (As Bs Cs : List Int) (h : Hs w (Vv n As 1048576) u) (h' : Hs w (Vv m Bs 1048576) v) (h'' : Hs w (Vv l Cs 1048576) x) (hn : n ≤ 1048576) (hm : m ≤ 1048576) (hl : l ≤ 1048576) (hT : Tab w) (q1 : ordZ As Bs < 0) (q2 : ordZ Bs Cs < 0) (hl0 : leadZ As = -1) :
    Calls Tryd.prog 5 #[u, v, x] w (Gives (IS (.bool true)) w) := by
  have hlA := vv_len h.now
  have hd : Dl As 1048576 := vv_dl h.now
  have hNd : Dl ((As).map (fun a => (-1) * a)) 1048576 := dl_unit (by decide) hd
  have hUd : Dl (upZ (As)) 1048576 := dl_up hd
  have hUNd : Dl (upZ ((As).map (fun a => (-1) * a))) 1048576 := dl_up hNd
  have d1 : (digs (-1 : Int).natAbs).length ≤ 1 := dl_small (by decide)
  have zz1 := ord_anti As Bs
  have zz2 := ord_refl As
  have zz4 : ordZ (upZ As) (upZ ((As).map (fun a => (-1) * a))) = 0 := by rw [up_neg]; exact ord_refl _
  have zz5 : leadZ As = leadZ ((As).map (fun a => (-1) * a)) := (lead_neg As).symm
  have o1 := ord_rng As Bs
  have o2 := ord_rng Bs As
  refine calls_sta (sl := [(0, (Vv n As 1048576)), (1, (Vv m Bs 1048576)), (2, (Vv l Cs 1048576))]) Tryd.func5 rfl Tryd.ntmps5 (by simp) (args_cons rfl (h) (args_cons rfl (h') (args_cons rfl (h'') args_nil))) ?_
  intro a0 S0
  replace S0 : Sta w 91 [] [(0, (Vv n As 1048576)), (1, (Vv m Bs 1048576)), (2, (Vv l Cs 1048576)), (1000001, TT)] (fun _ => False) a0 w := S0.moreT 1000001 (tt_has hT)
  refine wp_stmt_seq [.val (Is (.bool false))] [] [.inl 0, .inr 0, .inr 1, .inr 2, .inr 3] follows S0 rfl (by kernel_rfl) ?_ ?_
  · refine ⟨trivial, ?_⟩
    · exact owe_move rfl (wants_all rfl) (Or.inr rfl) (opnd_const _) rfl
  intro B1 a1 W1 S1
  replace S1 : Sta w 91 [] [(6, (Is (.bool false))), (0, (Vv n As 1048576)), (1, (Vv m Bs 1048576)), (2, (Vv l Cs 1048576)), (1000001, TT)] B1 a1 W1 := S1
  refine wp_seq ?_
  refine wp_stmt_seq [.val (Is (.bool true)),
      .val (Is (.bool false))] [] [.inl 1, .inr 0, .inr 1, .inr 2, .inr 3, .inr 4] follows S1 rfl (by kernel_rfl) ?_ ?_
  · refine ⟨⟨trivial, ?_⟩, ?_⟩
    · exact owe_call0T rfl (wants_all rfl) rfl (opnd_slot 4 1000001 rfl (by kernel_rfl)) (fresh_is _) rfl (fun args w => by go_simp) alive_w
    · exact owe_un (x := .tmp 10) rfl (wants_all rfl) rfl (opnd_op 0 10 (by kernel_rfl) rfl) rfl (fun ρ w h1 => run_not ρ _ _ w _ h1)
  intro B2 a2 W2 S2
  replace S2 : Sta w 91 [] [(11, (Is (.bool false))), (6, (Is (.bool false))), (0, (Vv n As 1048576)), (1, (Vv m Bs 1048576)), (2, (Vv l Cs 1048576)), (1000001, TT)] B2 a2 W2 := S2
  refine wp_cond_false (S2.bool 0 11 rfl) ?_
  refine wp_skip ?_
  refine thenN ?_
  refine wp_seq ?_
  refine wp_stmt_seq [.val (Vv n As 1048576),
      .val (Vv m Bs 1048576),
      .val (Is (.int .i64 (ordZ (As) (Bs)))),
      .val (Vv m Bs 1048576),
      .val (Vv n As 1048576),
      .val (Is (.int .i64 (ordZ (Bs) (As)))),
      .val (Is (.int .i64 (-(ordZ (Bs) (As))))),
      .val (Is (.bool false)),
      .val (Is (.bool false)),
      .val (Vv n As 1048576),
      .val (Vv n As 1048576),
      .val (Is (.int .i64 (ordZ (As) (As)))),
      .val (Is (.bool false)),
      .val (Is (.bool false)),
      .val (Is (.bool false)),
      .val (Vv n As 1048576),
      .val (Vv m Bs 1048576),
      .val (Is (.int .i64 (ordZ (As) (Bs)))),
      .val (Is (.bool true)),
      .val (Is (.bool true)),
      .val (Vv m Bs 1048576),
      .val (Vv l Cs 1048576),
      .val (Is (.int .i64 (ordZ (Bs) (Cs)))),
      .val (Is (.bool true)),
      .val (Is (.bool true)),
      .val (Is (.bool true)),
      .val (Vv n As 1048576),
      .val (Vv l Cs 1048576),
      .val (Is (.int .i64 (ordZ (As) (Cs)))),
      .val (Is (.bool false)),
      .val (Is (.bool false)),
      .val (Is (.bool false))] [] [.inl 31, .inr 0, .inr 1, .inr 2, .inr 5] follows S2 rfl (by kernel_rfl) ?_ ?_
  · refine ⟨⟨⟨⟨⟨⟨⟨⟨⟨⟨⟨⟨⟨⟨⟨⟨⟨⟨⟨⟨⟨⟨⟨⟨⟨⟨⟨⟨⟨⟨⟨⟨trivial, ?_⟩, ?_⟩, ?_⟩, ?_⟩, ?_⟩, ?_⟩, ?_⟩, ?_⟩, ?_⟩, ?_⟩, ?_⟩, ?_⟩, ?_⟩, ?_⟩, ?_⟩, ?_⟩, ?_⟩, ?_⟩, ?_⟩, ?_⟩, ?_⟩, ?_⟩, ?_⟩, ?_⟩, ?_⟩, ?_⟩, ?_⟩, ?_⟩, ?_⟩, ?_⟩, ?_⟩, ?_⟩
    · exact owe_move rfl (wants_all rfl) (Or.inl rfl) (opnd_slot 2 0 rfl (by kernel_rfl)) rfl
    · exact owe_move rfl (wants_all rfl) (Or.inl rfl) (opnd_slot 3 1 rfl (by kernel_rfl)) rfl
    · exact owe_callh2 rfl (wants_all rfl) rfl ((opnd_op 0 12 (by kernel_rfl) rfl).imp (fun _ _ h => h)) ((opnd_op 1 13 (by kernel_rfl) rfl).imp (fun _ _ h => h)) (fresh_is _) rfl (fun args w => by go_simp) (fun w u v h h' => order_w w u v n m 1048576 1048576 _ _ h h' (by omega) (by omega) (by omega) (by omega))
    · exact owe_move rfl (wants_all rfl) (Or.inl rfl) (opnd_slot 3 1 rfl (by kernel_rfl)) rfl
    · exact owe_move rfl (wants_all rfl) (Or.inl rfl) (opnd_slot 2 0 rfl (by kernel_rfl)) rfl
    · exact owe_callh2 rfl (wants_all rfl) rfl ((opnd_op 3 15 (by kernel_rfl) rfl).imp (fun _ _ h => h)) ((opnd_op 4 16 (by kernel_rfl) rfl).imp (fun _ _ h => h)) (fresh_is _) rfl (fun args w => by go_simp) (fun w u v h h' => order_w w u v m n 1048576 1048576 _ _ h h' (by omega) (by omega) (by omega) (by omega))
    · exact owe_un (x := .tmp 17) rfl (wants_all rfl) rfl (opnd_op 5 17 (by kernel_rfl) rfl) rfl (fun ρ w h1 => run_neg_int ρ _ _ w _ _ ⟨rfl, by omega, by omega⟩ h1)
    · exact owe_bin rfl (wants_all rfl) rfl (opnd_op 2 14 (by kernel_rfl) rfl) (opnd_op 6 18 (by kernel_rfl) rfl) rfl (fun ρ w h1 h2 => by exact run_neq_int_f ρ _ _ _ w _ _ zz1 h1 h2)
    · exact owe_move rfl (wants_all rfl) (Or.inl rfl) (opnd_op 7 19 (by kernel_rfl) rfl) rfl
    · exact owe_move rfl (wants_if 8 20 rfl (by kernel_rfl) rfl) (Or.inl rfl) (opnd_slot 2 0 rfl (by kernel_rfl)) rfl
    · exact owe_move rfl (wants_if 8 20 rfl (by kernel_rfl) rfl) (Or.inl rfl) (opnd_slot 2 0 rfl (by kernel_rfl)) rfl
    · exact owe_callh2 rfl (wants_if 8 20 rfl (by kernel_rfl) rfl) rfl ((opnd_op 9 21 (by kernel_rfl) rfl).imp (fun _ _ h => h)) ((opnd_op 10 22 (by kernel_rfl) rfl).imp (fun _ _ h => h)) (fresh_is _) rfl (fun args w => by go_simp) (fun w u v h h' => order_w w u v n n 1048576 1048576 _ _ h h' (by omega) (by omega) (by omega) (by omega))
    · exact owe_bin rfl (wants_if 8 20 rfl (by kernel_rfl) rfl) rfl (opnd_op 11 23 (by kernel_rfl) rfl) (opnd_const _) rfl (fun ρ w h1 h2 => by exact run_neq_int_f ρ _ _ _ w _ _ zz2 h1 h2)
    · exact owe_pick rfl (wants_all rfl) rfl (opnd_op 8 20 (by kernel_rfl) rfl) (fun h => nomatch h) (fun _ => (opnd_op 12 24 (by kernel_rfl) rfl)) rfl
    · exact owe_move rfl (wants_all rfl) (Or.inl rfl) (opnd_op 13 25 (by kernel_rfl) rfl) rfl
    · exact owe_move rfl (wants_if 14 26 rfl (by kernel_rfl) rfl) (Or.inl rfl) (opnd_slot 2 0 rfl (by kernel_rfl)) rfl
    · exact owe_move rfl (wants_if 14 26 rfl (by kernel_rfl) rfl) (Or.inl rfl) (opnd_slot 3 1 rfl (by kernel_rfl)) rfl
    · exact owe_callh2 rfl (wants_if 14 26 rfl (by kernel_rfl) rfl) rfl ((opnd_op 15 27 (by kernel_rfl) rfl).imp (fun _ _ h => h)) ((opnd_op 16 28 (by kernel_rfl) rfl).imp (fun _ _ h => h)) (fresh_is _) rfl (fun args w => by go_simp) (fun w u v h h' => order_w w u v n m 1048576 1048576 _ _ h h' (by omega) (by omega) (by omega) (by omega))
    · exact owe_bin rfl (wants_if 14 26 rfl (by kernel_rfl) rfl) rfl (opnd_op 17 29 (by kernel_rfl) rfl) (opnd_const _) rfl (fun ρ w h1 h2 => by exact run_lss_int_t ρ _ _ _ w _ _ q1 h1 h2)
    · exact owe_move rfl (wants_if 14 26 rfl (by kernel_rfl) rfl) (Or.inl rfl) (opnd_op 18 30 (by kernel_rfl) rfl) rfl
    · exact owe_move rfl (wants_if 19 31 rfl (by kernel_rfl) rfl) (Or.inl rfl) (opnd_slot 3 1 rfl (by kernel_rfl)) rfl
    · exact owe_move rfl (wants_if 19 31 rfl (by kernel_rfl) rfl) (Or.inl rfl) (opnd_slot 4 2 rfl (by kernel_rfl)) rfl
    · exact owe_callh2 rfl (wants_if 19 31 rfl (by kernel_rfl) rfl) rfl ((opnd_op 20 32 (by kernel_rfl) rfl).imp (fun _ _ h => h)) ((opnd_op 21 33 (by kernel_rfl) rfl).imp (fun _ _ h => h)) (fresh_is _) rfl (fun args w => by go_simp) (fun w u v h h' => order_w w u v m l 1048576 1048576 _ _ h h' (by omega) (by omega) (by omega) (by omega))
    · exact owe_bin rfl (wants_if 19 31 rfl (by kernel_rfl) rfl) rfl (opnd_op 22 34 (by kernel_rfl) rfl) (opnd_const _) rfl (fun ρ w h1 h2 => by exact run_lss_int_t ρ _ _ _ w _ _ q2 h1 h2)
    · exact owe_pick rfl (wants_if 14 26 rfl (by kernel_rfl) rfl) rfl (opnd_op 19 31 (by kernel_rfl) rfl) (fun _ => (opnd_op 23 35 (by kernel_rfl) rfl)) (fun h => nomatch h) rfl
    · exact owe_move rfl (wants_if 14 26 rfl (by kernel_rfl) rfl) (Or.inl rfl) (opnd_op 24 36 (by kernel_rfl) rfl) rfl
    · exact owe_move rfl (wants_if 25 37 rfl (by kernel_rfl) rfl) (Or.inl rfl) (opnd_slot 2 0 rfl (by kernel_rfl)) rfl
    · exact owe_move rfl (wants_if 25 37 rfl (by kernel_rfl) rfl) (Or.inl rfl) (opnd_slot 4 2 rfl (by kernel_rfl)) rfl
    · exact owe_callh2 rfl (wants_if 25 37 rfl (by kernel_rfl) rfl) rfl ((opnd_op 26 38 (by kernel_rfl) rfl).imp (fun _ _ h => h)) ((opnd_op 27 39 (by kernel_rfl) rfl).imp (fun _ _ h => h)) (fresh_is _) rfl (fun args w => by go_simp) (fun w u v h h' => order_w w u v n l 1048576 1048576 _ _ h h' (by omega) (by omega) (by omega) (by omega))
    · exact owe_bin rfl (wants_if 25 37 rfl (by kernel_rfl) rfl) rfl (opnd_op 28 40 (by kernel_rfl) rfl) (opnd_const _) rfl (fun ρ w h1 h2 => by exact run_geq_int_f ρ _ _ _ w _ _ (ord_trans As Bs Cs q1 q2) h1 h2)
    · exact owe_pick rfl (wants_if 14 26 rfl (by kernel_rfl) rfl) rfl (opnd_op 25 37 (by kernel_rfl) rfl) (fun _ => (opnd_op 29 41 (by kernel_rfl) rfl)) (fun h => nomatch h) rfl
    · exact owe_pick rfl (wants_all rfl) rfl (opnd_op 14 26 (by kernel_rfl) rfl) (fun h => nomatch h) (fun _ => (opnd_op 30 42 (by kernel_rfl) rfl)) rfl
  intro B3 a3 W3 S3
  replace S3 : Sta w 91 [] [(43, (Is (.bool false))), (11, (Is (.bool false))), (6, (Is (.bool false))), (0, (Vv n As 1048576)), (1000001, TT)] B3 a3 W3 := S3
  refine wp_cond_false (S3.bool 0 43 rfl) ?_
  refine wp_skip ?_
  refine thenN ?_
  refine wp_stmt_seq [.val ((ZN (-1)) w.heap.size),
      .val (Vv n As 1048576),
      .val ((VN n ((As).map (fun a => (-1) * a))) w.heap.size),
      .val ((VN n ((As).map (fun a => (-1) * a))) w.heap.size)] [] [.inl 3, .inr 0, .inr 1, .inr 2, .inr 3, .inr 4] follows S3 rfl (by kernel_rfl) ?_ ?_
  · refine ⟨⟨⟨⟨trivial, ?_⟩, ?_⟩, ?_⟩, ?_⟩
    · exact owe_call1 rfl (wants_all rfl) rfl (opnd_const _) (fresh_zn _) rfl (fun args w => by go_simp) (g_zof (-1) (by decide) (by decide))
    · exact owe_move rfl (wants_all rfl) (Or.inl rfl) (opnd_slot 3 0 rfl (by kernel_rfl)) rfl
    · exact owe_callh2 rfl (wants_all rfl) rfl ((opnd_op 0 44 (by kernel_rfl) rfl).imp (zn_zv d1)) ((opnd_op 1 45 (by kernel_rfl) rfl).imp (fun _ _ h => h)) fresh_vn rfl (fun args w => by go_simp) (fun w u v h h' => times_w w u v n 1048576 1 _ _ h h' (by omega) (by omega))
    · exact owe_move rfl (wants_all rfl) (Or.inr rfl) (opnd_op 2 46 (by kernel_rfl) rfl) rfl
  intro B4 a4 W4 S4
  replace S4 : Sta w 91 [] [(7, ((VN n ((As).map (fun a => (-1) * a))) w.heap.size)), (43, (Is (.bool false))), (11, (Is (.bool false))), (6, (Is (.bool false))), (0, (Vv n As 1048576)), (1000001, TT)] B4 a4 W4 := S4
  refine wp_stmt_seq [.val (Vv n As 1048576),
      .val (Is (.int .i64 (-1))),
      .val (Is (.int .i64 (-1)))] [] [.inl 2, .inr 0, .inr 1, .inr 2, .inr 3, .inr 4, .inr 5] follows S4 rfl (by kernel_rfl) ?_ ?_
  · refine ⟨⟨⟨trivial, ?_⟩, ?_⟩, ?_⟩
    · exact owe_move rfl (wants_all rfl) (Or.inl rfl) (opnd_slot 4 0 rfl (by kernel_rfl)) rfl
    · exact owe_callh1 rfl (wants_all rfl) rfl ((opnd_op 0 47 (by kernel_rfl) rfl).imp (fun _ _ h => h)) (fresh_is _) rfl (fun args w => by go_simp) (fun w u0 h0 => Gives.cast ((fun w u h => lead_w w u n 1048576 _ h (by omega) (by omega)) w u0 h0) (by rw [hl0]))
    · exact owe_move rfl (wants_all rfl) (Or.inr rfl) (opnd_op 1 48 (by kernel_rfl) rfl) rfl
  intro B5 a5 W5 S5
  replace S5 : Sta w 91 [] [(8, (Is (.int .i64 (-1)))), (7, ((VN n ((As).map (fun a => (-1) * a))) w.heap.size)), (43, (Is (.bool false))), (11, (Is (.bool false))), (6, (Is (.bool false))), (0, (Vv n As 1048576)), (1000001, TT)] B5 a5 W5 := S5
  refine wp_seq ?_
  refine wp_stmt_seq [.val (Vv n As 1048576),
      .val ((VN n (upZ (As))) w.heap.size),
      .val ((VN n ((As).map (fun a => (-1) * a))) w.heap.size),
      .val ((VN n (upZ ((As).map (fun a => (-1) * a)))) w.heap.size),
      .val (Is (.int .i64 (ordZ (upZ (As)) (upZ ((As).map (fun a => (-1) * a)))))),
      .val (Is (.bool false)),
      .val (Is (.bool false)),
      .val (Is (.int .i64 (-1))),
      .val ((VN n ((As).map (fun a => (-1) * a))) w.heap.size),
      .val (Is (.int .i64 (leadZ ((As).map (fun a => (-1) * a))))),
      .val (Is (.bool false)),
      .val (Is (.bool false)),
      .val (Is (.bool false)),
      .val (Is (.int .i64 (-1))),
      .val (Vv n As 1048576),
      .val (Is (.int .i64 (n : Nat))),
      .val (Is (.bool false)),
      .val (Is (.bool false)),
      .val (Is (.bool false)),
      .val ((VN n ((As).map (fun a => (-1) * a))) w.heap.size),
      .val (Is (.int .i64 (n : Nat))),
      .val (Vv n As 1048576),
      .val (Is (.int .i64 (n : Nat))),
      .val (Is (.bool false)),
      .val (Is (.bool false))] [] [.inl 24, .inr 0, .inr 2, .inr 3, .inr 4, .inr 5, .inr 6] follows S5 rfl (by kernel_rfl) ?_ ?_
  · refine ⟨⟨⟨⟨⟨⟨⟨⟨⟨⟨⟨⟨⟨⟨⟨⟨⟨⟨⟨⟨⟨⟨⟨⟨⟨trivial, ?_⟩, ?_⟩, ?_⟩, ?_⟩, ?_⟩, ?_⟩, ?_⟩, ?_⟩, ?_⟩, ?_⟩, ?_⟩, ?_⟩, ?_⟩, ?_⟩, ?_⟩, ?_⟩, ?_⟩, ?_⟩, ?_⟩, ?_⟩, ?_⟩, ?_⟩, ?_⟩, ?_⟩, ?_⟩
    · exact owe_move rfl (wants_all rfl) (Or.inl rfl) (opnd_slot 5 0 rfl (by kernel_rfl)) rfl
    · exact owe_callh1 rfl (wants_all rfl) rfl ((opnd_op 0 49 (by kernel_rfl) rfl).imp (fun _ _ h => h)) fresh_vn rfl (fun args w => by go_simp) (fun w u h => up_w w u n 1048576 _ h (by omega) (by omega))
    · exact owe_move rfl (wants_all rfl) (Or.inl rfl) (opnd_slot 1 7 rfl (by kernel_rfl)) rfl
    · exact owe_callh1 rfl (wants_all rfl) rfl ((opnd_op 2 51 (by kernel_rfl) rfl).imp (vn_vv hNd)) fresh_vn rfl (fun args w => by go_simp) (fun w u h => up_w w u n 1048576 _ h (by omega) (by omega))
    · exact owe_callh2 rfl (wants_all rfl) rfl ((opnd_op 1 50 (by kernel_rfl) rfl).imp (vn_vv hUd)) ((opnd_op 3 52 (by kernel_rfl) rfl).imp (vn_vv hUNd)) (fresh_is _) rfl (fun args w => by go_simp) (fun w u v h h' => order_w w u v n n 1048576 1048576 _ _ h h' (by omega) (by omega) (by omega) (by omega))
    · exact owe_bin rfl (wants_all rfl) rfl (opnd_op 4 53 (by kernel_rfl) rfl) (opnd_const _) rfl (fun ρ w h1 h2 => by exact run_neq_int_f ρ _ _ _ w _ _ zz4 h1 h2)
    · exact owe_move rfl (wants_all rfl) (Or.inl rfl) (opnd_op 5 54 (by kernel_rfl) rfl) rfl
    · exact owe_move rfl (wants_if 6 55 rfl (by kernel_rfl) rfl) (Or.inl rfl) (opnd_slot 0 8 rfl (by kernel_rfl)) rfl
    · exact owe_move rfl (wants_if 6 55 rfl (by kernel_rfl) rfl) (Or.inl rfl) (opnd_slot 1 7 rfl (by kernel_rfl)) rfl
    · exact owe_callh1 rfl (wants_if 6 55 rfl (by kernel_rfl) rfl) rfl ((opnd_op 8 57 (by kernel_rfl) rfl).imp (vn_vv hNd)) (fresh_is _) rfl (fun args w => by go_simp) (fun w u h => lead_w w u n 1048576 _ h (by omega) (by omega))
    · exact owe_bin rfl (wants_if 6 55 rfl (by kernel_rfl) rfl) rfl (opnd_op 7 56 (by kernel_rfl) rfl) (opnd_op 9 58 (by kernel_rfl) rfl) rfl (fun ρ w h1 h2 => by exact run_neq_int_f ρ _ _ _ w _ _ (by rw [← zz5, hl0]) h1 h2)
    · exact owe_pick rfl (wants_all rfl) rfl (opnd_op 6 55 (by kernel_rfl) rfl) (fun h => nomatch h) (fun _ => (opnd_op 10 59 (by kernel_rfl) rfl)) rfl
    · exact owe_move rfl (wants_all rfl) (Or.inl rfl) (opnd_op 11 60 (by kernel_rfl) rfl) rfl
    · exact owe_move rfl (wants_if 12 61 rfl (by kernel_rfl) rfl) (Or.inl rfl) (opnd_slot 0 8 rfl (by kernel_rfl)) rfl
    · exact owe_move rfl (wants_if 12 61 rfl (by kernel_rfl) rfl) (Or.inl rfl) (opnd_slot 5 0 rfl (by kernel_rfl)) rfl
    · exact owe_len rfl (wants_if 12 61 rfl (by kernel_rfl) rfl) rfl (opnd_op 14 63 (by kernel_rfl) rfl) ar_len Tryd.underlying23 rfl
    · exact owe_bin rfl (wants_if 12 61 rfl (by kernel_rfl) rfl) rfl (opnd_op 13 62 (by kernel_rfl) rfl) (opnd_op 15 64 (by kernel_rfl) rfl) rfl (fun ρ w h1 h2 => by exact run_geq_int_f ρ _ _ _ w _ _ (by omega) h1 h2)
    · exact owe_pick rfl (wants_all rfl) rfl (opnd_op 12 61 (by kernel_rfl) rfl) (fun h => nomatch h) (fun _ => (opnd_op 16 65 (by kernel_rfl) rfl)) rfl
    · exact owe_move rfl (wants_all rfl) (Or.inl rfl) (opnd_op 17 66 (by kernel_rfl) rfl) rfl
    · exact owe_move rfl (wants_if 18 67 rfl (by kernel_rfl) rfl) (Or.inl rfl) (opnd_slot 1 7 rfl (by kernel_rfl)) rfl
    · exact owe_len rfl (wants_if 18 67 rfl (by kernel_rfl) rfl) rfl (opnd_op 19 68 (by kernel_rfl) rfl) lf_len Tryd.underlying23 rfl
    · exact owe_move rfl (wants_if 18 67 rfl (by kernel_rfl) rfl) (Or.inl rfl) (opnd_slot 5 0 rfl (by kernel_rfl)) rfl
    · exact owe_len rfl (wants_if 18 67 rfl (by kernel_rfl) rfl) rfl (opnd_op 21 70 (by kernel_rfl) rfl) ar_len Tryd.underlying23 rfl
    · exact owe_bin rfl (wants_if 18 67 rfl (by kernel_rfl) rfl) rfl (opnd_op 20 69 (by kernel_rfl) rfl) (opnd_op 22 71 (by kernel_rfl) rfl) rfl (fun ρ w h1 h2 => by exact run_neq_int_f ρ _ _ _ w _ _ rfl h1 h2)
    · exact owe_pick rfl (wants_all rfl) rfl (opnd_op 18 67 (by kernel_rfl) rfl) (fun h => nomatch h) (fun _ => (opnd_op 23 72 (by kernel_rfl) rfl)) rfl
  intro B6 a6 W6 S6
  replace S6 : Sta w 91 [] [(73, (Is (.bool false))), (8, (Is (.int .i64 (-1)))), (43, (Is (.bool false))), (11, (Is (.bool false))), (6, (Is (.bool false))), (0, (Vv n As 1048576)), (1000001, TT)] B6 a6 W6 := S6
  refine wp_cond_false (S6.bool 0 73 rfl) ?_
  refine wp_skip ?_
  refine thenN ?_
  refine wp_seq ?_
  refine wp_stmt_seq [.val (Is (.int .i64 (-1))),
      .val (Is (.bool true))] [] [.inl 1, .inr 0, .inr 1, .inr 2, .inr 3, .inr 4, .inr 5, .inr 6] follows S6 rfl (by kernel_rfl) ?_ ?_
  · refine ⟨⟨trivial, ?_⟩, ?_⟩
    · exact owe_move rfl (wants_all rfl) (Or.inl rfl) (opnd_slot 1 8 rfl (by kernel_rfl)) rfl
    · exact owe_bin rfl (wants_all rfl) rfl (opnd_op 0 74 (by kernel_rfl) rfl) (opnd_const _) rfl (fun ρ w h1 h2 => by exact run_lss_int_t ρ _ _ _ w _ _ (by decide) h1 h2)
  intro B7 a7 W7 S7
  replace S7 : Sta w 91 [] [(75, (Is (.bool true))), (73, (Is (.bool false))), (8, (Is (.int .i64 (-1)))), (43, (Is (.bool false))), (11, (Is (.bool false))), (6, (Is (.bool false))), (0, (Vv n As 1048576)), (1000001, TT)] B7 a7 W7 := S7
  refine wp_cond_true (S7.bool 0 75 rfl) ?_
  refine wp_stmt_seq [.val (Is (.bool true))] [] [.inl 0, .inr 0, .inr 1, .inr 2, .inr 3, .inr 4, .inr 6, .inr 7] follows S7 rfl (by kernel_rfl) ?_ ?_
  · refine ⟨trivial, ?_⟩
    · exact owe_move rfl (wants_all rfl) (Or.inr rfl) (opnd_const _) rfl
  intro B8 a8 W8 S8
  replace S8 : Sta w 91 [] [(6, (Is (.bool true))), (75, (Is (.bool true))), (73, (Is (.bool false))), (8, (Is (.int .i64 (-1)))), (43, (Is (.bool false))), (11, (Is (.bool false))), (0, (Vv n As 1048576)), (1000001, TT)] B8 a8 W8 := S8
  refine wp_ret ?_
  refine thenR ?_
  exact end_one S8 rfl (res_tmp S8 0 6 rfl)

set_option maxHeartbeats 4000000 in
theorem line_t1 (w : World) (u v x : Value) (n m l : Nat) (As Bs Cs : List Int) (h : Hs w (Vv n As 1048576) u) (h' : Hs w (Vv m Bs 1048576) v) (h'' : Hs w (Vv l Cs 1048576) x) (hn : n ≤ 1048576) (hm : m ≤ 1048576) (hl : l ≤ 1048576) (hT : Tab w) (q1 : ordZ As Bs < 0) (q2 : ordZ Bs Cs < 0) (k0 : Nat) (hl0 : leadZ As = (k0 : Nat)) (hk0 : k0 < n) (x0 : Int) (hx0 : (upZ As)[k0]? = some x0) (hx1 : 0 < x0) :
    Calls Tryd.prog 5 #[u, v, x] w (Gives (IS (.bool true)) w) := by
  have hlA := vv_len h.now
  have hd : Dl As 1048576 := vv_dl h.now
  have hNd : Dl ((As).map (fun a => (-1) * a)) 1048576 := dl_unit (by decide) hd
  have hUd : Dl (upZ (As)) 1048576 := dl_up hd
  have hUNd : Dl (upZ ((As).map (fun a => (-1) * a))) 1048576 := dl_up hNd
  have d1 : (digs (-1 : Int).natAbs).length ≤ 1 := dl_small (by decide)
  have zz1 := ord_anti As Bs
  have zz2 := ord_refl As
  have zz4 : ordZ (upZ As) (upZ ((As).map (fun a => (-1) * a))) = 0 := by rw [up_neg]; exact ord_refl _
  have zz5 : leadZ As = leadZ ((As).map (fun a => (-1) * a)) := (lead_neg As).symm
  have o1 := ord_rng As Bs
  have o2 := ord_rng Bs As
  have dx : (digs x0.natAbs).length ≤ 1048576 := hUd k0 x0 hx0
  refine calls_sta (sl := [(0, (Vv n As 1048576)), (1, (Vv m Bs 1048576)), (2, (Vv l Cs 1048576))]) Tryd.func5 rfl Tryd.ntmps5 (by simp) (args_cons rfl (h) (args_cons rfl (h') (args_cons rfl (h'') args_nil))) ?_
  intro a0 S0
  replace S0 : Sta w 91 [] [(0, (Vv n As 1048576)), (1, (Vv m Bs 1048576)), (2, (Vv l Cs 1048576)), (1000001, TT)] (fun _ => False) a0 w := S0.moreT 1000001 (tt_has hT)
  refine wp_stmt_seq [.val (Is (.bool false))] [] [.inl 0, .inr 0, .inr 1, .inr 2, .inr 3] follows S0 rfl (by kernel_rfl) ?_ ?_
  · refine ⟨trivial, ?_⟩
    · exact owe_move rfl (wants_all rfl) (Or.inr rfl) (opnd_const _) rfl
  intro B1 a1 W1 S1
  replace S1 : Sta w 91 [] [(6, (Is (.bool false))), (0, (Vv n As 1048576)), (1, (Vv m Bs 1048576)), (2, (Vv l Cs 1048576)), (1000001, TT)] B1 a1 W1 := S1
  refine wp_seq ?_
  refine wp_stmt_seq [.val (Is (.bool true)),
      .val (Is (.bool false))] [] [.inl 1, .inr 0, .inr 1, .inr 2, .inr 3, .inr 4] follows S1 rfl (by kernel_rfl) ?_ ?_
  · refine ⟨⟨trivial, ?_⟩, ?_⟩
    · exact owe_call0T rfl (wants_all rfl) rfl (opnd_slot 4 1000001 rfl (by kernel_rfl)) (fresh_is _) rfl (fun args w => by go_simp) alive_w
    · exact owe_un (x := .tmp 10) rfl (wants_all rfl) rfl (opnd_op 0 10 (by kernel_rfl) rfl) rfl (fun ρ w h1 => run_not ρ _ _ w _ h1)
  intro B2 a2 W2 S2
  replace S2 : Sta w 91 [] [(11, (Is (.bool false))), (6, (Is (.bool false))), (0, (Vv n As 1048576)), (1, (Vv m Bs 1048576)), (2, (Vv l Cs 1048576)), (1000001, TT)] B2 a2 W2 := S2
  refine wp_cond_false (S2.bool 0 11 rfl) ?_
  refine wp_skip ?_
  refine thenN ?_
  refine wp_seq ?_
  refine wp_stmt_seq [.val (Vv n As 1048576),
      .val (Vv m Bs 1048576),
      .val (Is (.int .i64 (ordZ (As) (Bs)))),
      .val (Vv m Bs 1048576),
      .val (Vv n As 1048576),
      .val (Is (.int .i64 (ordZ (Bs) (As)))),
      .val (Is (.int .i64 (-(ordZ (Bs) (As))))),
      .val (Is (.bool false)),
      .val (Is (.bool false)),
      .val (Vv n As 1048576),
      .val (Vv n As 1048576),
      .val (Is (.int .i64 (ordZ (As) (As)))),
      .val (Is (.bool false)),
      .val (Is (.bool false)),
      .val (Is (.bool false)),
      .val (Vv n As 1048576),
      .val (Vv m Bs 1048576),
      .val (Is (.int .i64 (ordZ (As) (Bs)))),
      .val (Is (.bool true)),
      .val (Is (.bool true)),
      .val (Vv m Bs 1048576),
      .val (Vv l Cs 1048576),
      .val (Is (.int .i64 (ordZ (Bs) (Cs)))),
      .val (Is (.bool true)),
      .val (Is (.bool true)),
      .val (Is (.bool true)),
      .val (Vv n As 1048576),
      .val (Vv l Cs 1048576),
      .val (Is (.int .i64 (ordZ (As) (Cs)))),
      .val (Is (.bool false)),
      .val (Is (.bool false)),
      .val (Is (.bool false))] [] [.inl 31, .inr 0, .inr 1, .inr 2, .inr 5] follows S2 rfl (by kernel_rfl) ?_ ?_
  · refine ⟨⟨⟨⟨⟨⟨⟨⟨⟨⟨⟨⟨⟨⟨⟨⟨⟨⟨⟨⟨⟨⟨⟨⟨⟨⟨⟨⟨⟨⟨⟨⟨trivial, ?_⟩, ?_⟩, ?_⟩, ?_⟩, ?_⟩, ?_⟩, ?_⟩, ?_⟩, ?_⟩, ?_⟩, ?_⟩, ?_⟩, ?_⟩, ?_⟩, ?_⟩, ?_⟩, ?_⟩, ?_⟩, ?_⟩, ?_⟩, ?_⟩, ?_⟩, ?_⟩, ?_⟩, ?_⟩, ?_⟩, ?_⟩, ?_⟩, ?_⟩, ?_⟩, ?_⟩, ?_⟩
    · exact owe_move rfl (wants_all rfl) (Or.inl rfl) (opnd_slot 2 0 rfl (by kernel_rfl)) rfl
    · exact owe_move rfl (wants_all rfl) (Or.inl rfl) (opnd_slot 3 1 rfl (by kernel_rfl)) rfl
    · exact owe_callh2 rfl (wants_all rfl) rfl ((opnd_op 0 12 (by kernel_rfl) rfl).imp (fun _ _ h => h)) ((opnd_op 1 13 (by kernel_rfl) rfl).imp (fun _ _ h => h)) (fresh_is _) rfl (fun args w => by go_simp) (fun w u v h h' => order_w w u v n m 1048576 1048576 _ _ h h' (by omega) (by omega) (by omega) (by omega))
    · exact owe_move rfl (wants_all rfl) (Or.inl rfl) (opnd_slot 3 1 rfl (by kernel_rfl)) rfl
    · exact owe_move rfl (wants_all rfl) (Or.inl rfl) (opnd_slot 2 0 rfl (by kernel_rfl)) rfl
    · exact owe_callh2 rfl (wants_all rfl) rfl ((opnd_op 3 15 (by kernel_rfl) rfl).imp (fun _ _ h => h)) ((opnd_op 4 16 (by kernel_rfl) rfl).imp (fun _ _ h => h)) (fresh_is _) rfl (fun args w => by go_simp) (fun w u v h h' => order_w w u v m n 1048576 1048576 _ _ h h' (by omega) (by omega) (by omega) (by omega))
    · exact owe_un (x := .tmp 17) rfl (wants_all rfl) rfl (opnd_op 5 17 (by kernel_rfl) rfl) rfl (fun ρ w h1 => run_neg_int ρ _ _ w _ _ ⟨rfl, by omega, by omega⟩ h1)
    · exact owe_bin rfl (wants_all rfl) rfl (opnd_op 2 14 (by kernel_rfl) rfl) (opnd_op 6 18 (by kernel_rfl) rfl) rfl (fun ρ w h1 h2 => by exact run_neq_int_f ρ _ _ _ w _ _ zz1 h1 h2)
    · exact owe_move rfl (wants_all rfl) (Or.inl rfl) (opnd_op 7 19 (by kernel_rfl) rfl) rfl
    · exact owe_move rfl (wants_if 8 20 rfl (by kernel_rfl) rfl) (Or.inl rfl) (opnd_slot 2 0 rfl (by kernel_rfl)) rfl
    · exact owe_move rfl (wants_if 8 20 rfl (by kernel_rfl) rfl) (Or.inl rfl) (opnd_slot 2 0 rfl (by kernel_rfl)) rfl
    · exact owe_callh2 rfl (wants_if 8 20 rfl (by kernel_rfl) rfl) rfl ((opnd_op 9 21 (by kernel_rfl) rfl).imp (fun _ _ h => h)) ((opnd_op 10 22 (by kernel_rfl) rfl).imp (fun _ _ h => h)) (fresh_is _) rfl (fun args w => by go_simp) (fun w u v h h' => order_w w u v n n 1048576 1048576 _ _ h h' (by omega) (by omega) (by omega) (by omega))
    · exact owe_bin rfl (wants_if 8 20 rfl (by kernel_rfl) rfl) rfl (opnd_op 11 23 (by kernel_rfl) rfl) (opnd_const _) rfl (fun ρ w h1 h2 => by exact run_neq_int_f ρ _ _ _ w _ _ zz2 h1 h2)
    · exact owe_pick rfl (wants_all rfl) rfl (opnd_op 8 20 (by kernel_rfl) rfl) (fun h => nomatch h) (fun _ => (opnd_op 12 24 (by kernel_rfl) rfl)) rfl
    · exact owe_move rfl (wants_all rfl) (Or.inl rfl) (opnd_op 13 25 (by kernel_rfl) rfl) rfl
    · exact owe_move rfl (wants_if 14 26 rfl (by kernel_rfl) rfl) (Or.inl rfl) (opnd_slot 2 0 rfl (by kernel_rfl)) rfl
    · exact owe_move rfl (wants_if 14 26 rfl (by kernel_rfl) rfl) (Or.inl rfl) (opnd_slot 3 1 rfl (by kernel_rfl)) rfl
    · exact owe_callh2 rfl (wants_if 14 26 rfl (by kernel_rfl) rfl) rfl ((opnd_op 15 27 (by kernel_rfl) rfl).imp (fun _ _ h => h)) ((opnd_op 16 28 (by kernel_rfl) rfl).imp (fun _ _ h => h)) (fresh_is _) rfl (fun args w => by go_simp) (fun w u v h h' => order_w w u v n m 1048576 1048576 _ _ h h' (by omega) (by omega) (by omega) (by omega))
    · exact owe_bin rfl (wants_if 14 26 rfl (by kernel_rfl) rfl) rfl (opnd_op 17 29 (by kernel_rfl) rfl) (opnd_const _) rfl (fun ρ w h1 h2 => by exact run_lss_int_t ρ _ _ _ w _ _ q1 h1 h2)
    · exact owe_move rfl (wants_if 14 26 rfl (by kernel_rfl) rfl) (Or.inl rfl) (opnd_op 18 30 (by kernel_rfl) rfl) rfl
    · exact owe_move rfl (wants_if 19 31 rfl (by kernel_rfl) rfl) (Or.inl rfl) (opnd_slot 3 1 rfl (by kernel_rfl)) rfl
    · exact owe_move rfl (wants_if 19 31 rfl (by kernel_rfl) rfl) (Or.inl rfl) (opnd_slot 4 2 rfl (by kernel_rfl)) rfl
    · exact owe_callh2 rfl (wants_if 19 31 rfl (by kernel_rfl) rfl) rfl ((opnd_op 20 32 (by kernel_rfl) rfl).imp (fun _ _ h => h)) ((opnd_op 21 33 (by kernel_rfl) rfl).imp (fun _ _ h => h)) (fresh_is _) rfl (fun args w => by go_simp) (fun w u v h h' => order_w w u v m l 1048576 1048576 _ _ h h' (by omega) (by omega) (by omega) (by omega))
    · exact owe_bin rfl (wants_if 19 31 rfl (by kernel_rfl) rfl) rfl (opnd_op 22 34 (by kernel_rfl) rfl) (opnd_const _) rfl (fun ρ w h1 h2 => by exact run_lss_int_t ρ _ _ _ w _ _ q2 h1 h2)
    · exact owe_pick rfl (wants_if 14 26 rfl (by kernel_rfl) rfl) rfl (opnd_op 19 31 (by kernel_rfl) rfl) (fun _ => (opnd_op 23 35 (by kernel_rfl) rfl)) (fun h => nomatch h) rfl
    · exact owe_move rfl (wants_if 14 26 rfl (by kernel_rfl) rfl) (Or.inl rfl) (opnd_op 24 36 (by kernel_rfl) rfl) rfl
    · exact owe_move rfl (wants_if 25 37 rfl (by kernel_rfl) rfl) (Or.inl rfl) (opnd_slot 2 0 rfl (by kernel_rfl)) rfl
    · exact owe_move rfl (wants_if 25 37 rfl (by kernel_rfl) rfl) (Or.inl rfl) (opnd_slot 4 2 rfl (by kernel_rfl)) rfl
    · exact owe_callh2 rfl (wants_if 25 37 rfl (by kernel_rfl) rfl) rfl ((opnd_op 26 38 (by kernel_rfl) rfl).imp (fun _ _ h => h)) ((opnd_op 27 39 (by kernel_rfl) rfl).imp (fun _ _ h => h)) (fresh_is _) rfl (fun args w => by go_simp) (fun w u v h h' => order_w w u v n l 1048576 1048576 _ _ h h' (by omega) (by omega) (by omega) (by omega))
    · exact owe_bin rfl (wants_if 25 37 rfl (by kernel_rfl) rfl) rfl (opnd_op 28 40 (by kernel_rfl) rfl) (opnd_const _) rfl (fun ρ w h1 h2 => by exact run_geq_int_f ρ _ _ _ w _ _ (ord_trans As Bs Cs q1 q2) h1 h2)
    · exact owe_pick rfl (wants_if 14 26 rfl (by kernel_rfl) rfl) rfl (opnd_op 25 37 (by kernel_rfl) rfl) (fun _ => (opnd_op 29 41 (by kernel_rfl) rfl)) (fun h => nomatch h) rfl
    · exact owe_pick rfl (wants_all rfl) rfl (opnd_op 14 26 (by kernel_rfl) rfl) (fun h => nomatch h) (fun _ => (opnd_op 30 42 (by kernel_rfl) rfl)) rfl
  intro B3 a3 W3 S3
  replace S3 : Sta w 91 [] [(43, (Is (.bool false))), (11, (Is (.bool false))), (6, (Is (.bool false))), (0, (Vv n As 1048576)), (1000001, TT)] B3 a3 W3 := S3
  refine wp_cond_false (S3.bool 0 43 rfl) ?_
  refine wp_skip ?_
  refine thenN ?_
  refine wp_stmt_seq [.val ((ZN (-1)) w.heap.size),
      .val (Vv n As 1048576),
      .val ((VN n ((As).map (fun a => (-1) * a))) w.heap.size),
      .val ((VN n ((As).map (fun a => (-1) * a))) w.heap.size)] [] [.inl 3, .inr 0, .inr 1, .inr 2, .inr 3, .inr 4] follows S3 rfl (by kernel_rfl) ?_ ?_
  · refine ⟨⟨⟨⟨trivial, ?_⟩, ?_⟩, ?_⟩, ?_⟩
    · exact owe_call1 rfl (wants_all rfl) rfl (opnd_const _) (fresh_zn _) rfl (fun args w => by go_simp) (g_zof (-1) (by decide) (by decide))
    · exact owe_move rfl (wants_all rfl) (Or.inl rfl) (opnd_slot 3 0 rfl (by kernel_rfl)) rfl
    · exact owe_callh2 rfl (wants_all rfl) rfl ((opnd_op 0 44 (by kernel_rfl) rfl).imp (zn_zv d1)) ((opnd_op 1 45 (by kernel_rfl) rfl).imp (fun _ _ h => h)) fresh_vn rfl (fun args w => by go_simp) (fun w u v h h' => times_w w u v n 1048576 1 _ _ h h' (by omega) (by omega))
    · exact owe_move rfl (wants_all rfl) (Or.inr rfl) (opnd_op 2 46 (by kernel_rfl) rfl) rfl
  intro B4 a4 W4 S4
  replace S4 : Sta w 91 [] [(7, ((VN n ((As).map (fun a => (-1) * a))) w.heap.size)), (43, (Is (.bool false))), (11, (Is (.bool false))), (6, (Is (.bool false))), (0, (Vv n As 1048576)), (1000001, TT)] B4 a4 W4 := S4
  refine wp_stmt_seq [.val (Vv n As 1048576),
      .val (Is (.int .i64 (k0 : Nat))),
      .val (Is (.int .i64 (k0 : Nat)))] [] [.inl 2, .inr 0, .inr 1, .inr 2, .inr 3, .inr 4, .inr 5] follows S4 rfl (by kernel_rfl) ?_ ?_
  · refine ⟨⟨⟨trivial, ?_⟩, ?_⟩, ?_⟩
    · exact owe_move rfl (wants_all rfl) (Or.inl rfl) (opnd_slot 4 0 rfl (by kernel_rfl)) rfl
    · exact owe_callh1 rfl (wants_all rfl) rfl ((opnd_op 0 47 (by kernel_rfl) rfl).imp (fun _ _ h => h)) (fresh_is _) rfl (fun args w => by go_simp) (fun w u0 h0 => Gives.cast ((fun w u h => lead_w w u n 1048576 _ h (by omega) (by omega)) w u0 h0) (by rw [hl0]))
    · exact owe_move rfl (wants_all rfl) (Or.inr rfl) (opnd_op 1 48 (by kernel_rfl) rfl) rfl
  intro B5 a5 W5 S5
  replace S5 : Sta w 91 [] [(8, (Is (.int .i64 (k0 : Nat)))), (7, ((VN n ((As).map (fun a => (-1) * a))) w.heap.size)), (43, (Is (.bool false))), (11, (Is (.bool false))), (6, (Is (.bool false))), (0, (Vv n As 1048576)), (1000001, TT)] B5 a5 W5 := S5
  refine wp_seq ?_
  refine wp_stmt_seq [.val (Vv n As 1048576),
      .val ((VN n (upZ (As))) w.heap.size),
      .val ((VN n ((As).map (fun a => (-1) * a))) w.heap.size),
      .val ((VN n (upZ ((As).map (fun a => (-1) * a)))) w.heap.size),
      .val (Is (.int .i64 (ordZ (upZ (As)) (upZ ((As).map (fun a => (-1) * a)))))),
      .val (Is (.bool false)),
      .val (Is (.bool false)),
      .val (Is (.int .i64 (k0 : Nat))),
      .val ((VN n ((As).map (fun a => (-1) * a))) w.heap.size),
      .val (Is (.int .i64 (leadZ ((As).map (fun a => (-1) * a))))),
      .val (Is (.bool false)),
      .val (Is (.bool false)),
      .val (Is (.bool false)),
      .val (Is (.int .i64 (k0 : Nat))),
      .val (Vv n As 1048576),
      .val (Is (.int .i64 (n : Nat))),
      .val (Is (.bool false)),
      .val (Is (.bool false)),
      .val (Is (.bool false)),
      .val ((VN n ((As).map (fun a => (-1) * a))) w.heap.size),
      .val (Is (.int .i64 (n : Nat))),
      .val (Vv n As 1048576),
      .val (Is (.int .i64 (n : Nat))),
      .val (Is (.bool false)),
      .val (Is (.bool false))] [] [.inl 24, .inr 0, .inr 2, .inr 3, .inr 4, .inr 5, .inr 6] follows S5 rfl (by kernel_rfl) ?_ ?_
  · refine ⟨⟨⟨⟨⟨⟨⟨⟨⟨⟨⟨⟨⟨⟨⟨⟨⟨⟨⟨⟨⟨⟨⟨⟨⟨trivial, ?_⟩, ?_⟩, ?_⟩, ?_⟩, ?_⟩, ?_⟩, ?_⟩, ?_⟩, ?_⟩, ?_⟩, ?_⟩, ?_⟩, ?_⟩, ?_⟩, ?_⟩, ?_⟩, ?_⟩, ?_⟩, ?_⟩, ?_⟩, ?_⟩, ?_⟩, ?_⟩, ?_⟩, ?_⟩
    · exact owe_move rfl (wants_all rfl) (Or.inl rfl) (opnd_slot 5 0 rfl (by kernel_rfl)) rfl
    · exact owe_callh1 rfl (wants_all rfl) rfl ((opnd_op 0 49 (by kernel_rfl) rfl).imp (fun _ _ h => h)) fresh_vn rfl (fun args w => by go_simp) (fun w u h => up_w w u n 1048576 _ h (by omega) (by omega))
    · exact owe_move rfl (wants_all rfl) (Or.inl rfl) (opnd_slot 1 7 rfl (by kernel_rfl)) rfl
    · exact owe_callh1 rfl (wants_all rfl) rfl ((opnd_op 2 51 (by kernel_rfl) rfl).imp (vn_vv hNd)) fresh_vn rfl (fun args w => by go_simp) (fun w u h => up_w w u n 1048576 _ h (by omega) (by omega))
    · exact owe_callh2 rfl (wants_all rfl) rfl ((opnd_op 1 50 (by kernel_rfl) rfl).imp (vn_vv hUd)) ((opnd_op 3 52 (by kernel_rfl) rfl).imp (vn_vv hUNd)) (fresh_is _) rfl (fun args w => by go_simp) (fun w u v h h' => order_w w u v n n 1048576 1048576 _ _ h h' (by omega) (by omega) (by omega) (by omega))
    · exact owe_bin rfl (wants_all rfl) rfl (opnd_op 4 53 (by kernel_rfl) rfl) (opnd_const _) rfl (fun ρ w h1 h2 => by exact run_neq_int_f ρ _ _ _ w _ _ zz4 h1 h2)
    · exact owe_move rfl (wants_all rfl) (Or.inl rfl) (opnd_op 5 54 (by kernel_rfl) rfl) rfl
    · exact owe_move rfl (wants_if 6 55 rfl (by kernel_rfl) rfl) (Or.inl rfl) (opnd_slot 0 8 rfl (by kernel_rfl)) rfl
    · exact owe_move rfl (wants_if 6 55 rfl (by kernel_rfl) rfl) (Or.inl rfl) (opnd_slot 1 7 rfl (by kernel_rfl)) rfl
    · exact owe_callh1 rfl (wants_if 6 55 rfl (by kernel_rfl) rfl) rfl ((opnd_op 8 57 (by kernel_rfl) rfl).imp (vn_vv hNd)) (fresh_is _) rfl (fun args w => by go_simp) (fun w u h => lead_w w u n 1048576 _ h (by omega) (by omega))
    · exact owe_bin rfl (wants_if 6 55 rfl (by kernel_rfl) rfl) rfl (opnd_op 7 56 (by kernel_rfl) rfl) (opnd_op 9 58 (by kernel_rfl) rfl) rfl (fun ρ w h1 h2 => by exact run_neq_int_f ρ _ _ _ w _ _ (by rw [← zz5, hl0]) h1 h2)
    · exact owe_pick rfl (wants_all rfl) rfl (opnd_op 6 55 (by kernel_rfl) rfl) (fun h => nomatch h) (fun _ => (opnd_op 10 59 (by kernel_rfl) rfl)) rfl
    · exact owe_move rfl (wants_all rfl) (Or.inl rfl) (opnd_op 11 60 (by kernel_rfl) rfl) rfl
    · exact owe_move rfl (wants_if 12 61 rfl (by kernel_rfl) rfl) (Or.inl rfl) (opnd_slot 0 8 rfl (by kernel_rfl)) rfl
    · exact owe_move rfl (wants_if 12 61 rfl (by kernel_rfl) rfl) (Or.inl rfl) (opnd_slot 5 0 rfl (by kernel_rfl)) rfl
    · exact owe_len rfl (wants_if 12 61 rfl (by kernel_rfl) rfl) rfl (opnd_op 14 63 (by kernel_rfl) rfl) ar_len Tryd.underlying23 rfl
    · exact owe_bin rfl (wants_if 12 61 rfl (by kernel_rfl) rfl) rfl (opnd_op 13 62 (by kernel_rfl) rfl) (opnd_op 15 64 (by kernel_rfl) rfl) rfl (fun ρ w h1 h2 => by exact run_geq_int_f ρ _ _ _ w _ _ (by omega) h1 h2)
    · exact owe_pick rfl (wants_all rfl) rfl (opnd_op 12 61 (by kernel_rfl) rfl) (fun h => nomatch h) (fun _ => (opnd_op 16 65 (by kernel_rfl) rfl)) rfl
    · exact owe_move rfl (wants_all rfl) (Or.inl rfl) (opnd_op 17 66 (by kernel_rfl) rfl) rfl
    · exact owe_move rfl (wants_if 18 67 rfl (by kernel_rfl) rfl) (Or.inl rfl) (opnd_slot 1 7 rfl (by kernel_rfl)) rfl
    · exact owe_len rfl (wants_if 18 67 rfl (by kernel_rfl) rfl) rfl (opnd_op 19 68 (by kernel_rfl) rfl) lf_len Tryd.underlying23 rfl
    · exact owe_move rfl (wants_if 18 67 rfl (by kernel_rfl) rfl) (Or.inl rfl) (opnd_slot 5 0 rfl (by kernel_rfl)) rfl
    · exact owe_len rfl (wants_if 18 67 rfl (by kernel_rfl) rfl) rfl (opnd_op 21 70 (by kernel_rfl) rfl) ar_len Tryd.underlying23 rfl
    · exact owe_bin rfl (wants_if 18 67 rfl (by kernel_rfl) rfl) rfl (opnd_op 20 69 (by kernel_rfl) rfl) (opnd_op 22 71 (by kernel_rfl) rfl) rfl (fun ρ w h1 h2 => by exact run_neq_int_f ρ _ _ _ w _ _ rfl h1 h2)
    · exact owe_pick rfl (wants_all rfl) rfl (opnd_op 18 67 (by kernel_rfl) rfl) (fun h => nomatch h) (fun _ => (opnd_op 23 72 (by kernel_rfl) rfl)) rfl
  intro B6 a6 W6 S6
  replace S6 : Sta w 91 [] [(73, (Is (.bool false))), (8, (Is (.int .i64 (k0 : Nat)))), (43, (Is (.bool false))), (11, (Is (.bool false))), (6, (Is (.bool false))), (0, (Vv n As 1048576)), (1000001, TT)] B6 a6 W6 := S6
  refine wp_cond_false (S6.bool 0 73 rfl) ?_
  refine wp_skip ?_
  refine thenN ?_
  refine wp_seq ?_
  refine wp_stmt_seq [.val (Is (.int .i64 (k0 : Nat))),
      .val (Is (.bool false))] [] [.inl 1, .inr 0, .inr 1, .inr 2, .inr 3, .inr 4, .inr 5, .inr 6] follows S6 rfl (by kernel_rfl) ?_ ?_
  · refine ⟨⟨trivial, ?_⟩, ?_⟩
    · exact owe_move rfl (wants_all rfl) (Or.inl rfl) (opnd_slot 1 8 rfl (by kernel_rfl)) rfl
    · exact owe_bin rfl (wants_all rfl) rfl (opnd_op 0 74 (by kernel_rfl) rfl) (opnd_const _) rfl (fun ρ w h1 h2 => by exact run_lss_int_f ρ _ _ _ w _ _ (by omega) h1 h2)
  intro B7 a7 W7 S7
  replace S7 : Sta w 91 [] [(75, (Is (.bool false))), (73, (Is (.bool false))), (8, (Is (.int .i64 (k0 : Nat)))), (43, (Is (.bool false))), (11, (Is (.bool false))), (6, (Is (.bool false))), (0, (Vv n As 1048576)), (1000001, TT)] B7 a7 W7 := S7
  refine wp_cond_false (S7.bool 0 75 rfl) ?_
  refine wp_skip ?_
  refine thenN ?_
  refine wp_stmt_seq [.val (Vv n As 1048576),
      .val ((VN n (upZ (As))) w.heap.size),
      .val ((VN n (upZ (As))) w.heap.size)] [] [.inl 2, .inr 0, .inr 1, .inr 2, .inr 3, .inr 4, .inr 5, .inr 6, .inr 7] follows S7 rfl (by kernel_rfl) ?_ ?_
  · refine ⟨⟨⟨trivial, ?_⟩, ?_⟩, ?_⟩
    · exact owe_move rfl (wants_all rfl) (Or.inl rfl) (opnd_slot 6 0 rfl (by kernel_rfl)) rfl
    · exact owe_callh1 rfl (wants_all rfl) rfl ((opnd_op 0 76 (by kernel_rfl) rfl).imp (fun _ _ h => h)) fresh_vn rfl (fun args w => by go_simp) (fun w u h => up_w w u n 1048576 _ h (by omega) (by omega))
    · exact owe_move rfl (wants_all rfl) (Or.inr rfl) (opnd_op 1 77 (by kernel_rfl) rfl) rfl
  intro B8 a8 W8 S8
  replace S8 : Sta w 91 [] [(9, ((VN n (upZ (As))) w.heap.size)), (75, (Is (.bool false))), (73, (Is (.bool false))), (8, (Is (.int .i64 (k0 : Nat)))), (43, (Is (.bool false))), (11, (Is (.bool false))), (6, (Is (.bool false))), (0, (Vv n As 1048576)), (1000001, TT)] B8 a8 W8 := S8
  refine wp_stmt_seq [.val ((VN n (upZ (As))) w.heap.size),
      .val (Is (.int .i64 (n : Nat))),
      .val (Vv n As 1048576),
      .val (Is (.int .i64 (n : Nat))),
      .val (Is (.bool true)),
      .val (Is (.bool true)),
      .val ((VN n (upZ (As))) w.heap.size),
      .val (Is (.int .i64 (k0 : Nat))),
      .val (AtE 2 ((ZN (x0)) w.heap.size)),
      .val ((ZN (x0)) w.heap.size),
      .val (Is (.int .i64 (x0).sign)),
      .val (Is (.bool true)),
      .val (Is (.bool true)),
      .val (Is (.bool true))] [] [.inl 13, .inr 1, .inr 2, .inr 3, .inr 4, .inr 5, .inr 7, .inr 8] follows S8 rfl (by kernel_rfl) ?_ ?_
  · refine ⟨⟨⟨⟨⟨⟨⟨⟨⟨⟨⟨⟨⟨⟨trivial, ?_⟩, ?_⟩, ?_⟩, ?_⟩, ?_⟩, ?_⟩, ?_⟩, ?_⟩, ?_⟩, ?_⟩, ?_⟩, ?_⟩, ?_⟩, ?_⟩
    · exact owe_move rfl (wants_all rfl) (Or.inl rfl) (opnd_slot 0 9 rfl (by kernel_rfl)) rfl
    · exact owe_len rfl (wants_all rfl) rfl (opnd_op 0 78 (by kernel_rfl) rfl) lf_len Tryd.underlying23 rfl
    · exact owe_move rfl (wants_all rfl) (Or.inl rfl) (opnd_slot 7 0 rfl (by kernel_rfl)) rfl
    · exact owe_len rfl (wants_all rfl) rfl (opnd_op 2 80 (by kernel_rfl) rfl) ar_len Tryd.underlying23 rfl
    · exact owe_bin rfl (wants_all rfl) rfl (opnd_op 1 79 (by kernel_rfl) rfl) (opnd_op 3 81 (by kernel_rfl) rfl) rfl (fun ρ w h1 h2 => by exact run_eql_int_t ρ _ _ _ w _ _ rfl h1 h2)
    · exact owe_move rfl (wants_all rfl) (Or.inl rfl) (opnd_op 4 82 (by kernel_rfl) rfl) rfl
    · exact owe_move rfl (wants_if 5 83 rfl (by kernel_rfl) rfl) (Or.inl rfl) (opnd_slot 0 9 rfl (by kernel_rfl)) rfl
    · exact owe_move rfl (wants_if 5 83 rfl (by kernel_rfl) rfl) (Or.inl rfl) (opnd_slot 3 8 rfl (by kernel_rfl)) rfl
    · exact owe_aindex rfl (wants_if 5 83 rfl (by kernel_rfl) rfl) rfl idx_ints ((opnd_op 6 84 (by kernel_rfl) rfl).imp lf_ar) (opnd_op 7 85 (by kernel_rfl) rfl) (map_get' (· w.heap.size) (map_get' ZN hx0)) rfl
    · exact owe_aload rfl (wants_if 5 83 rfl (by kernel_rfl) rfl) rfl ldr_int (by decide) (cel_shp (by decide) shp_zn) (opnd_op 8 86 (by kernel_rfl) rfl) rfl
    · exact owe_call1 rfl (wants_if 5 83 rfl (by kernel_rfl) rfl) rfl (opnd_op 9 87 (by kernel_rfl) rfl) (fresh_is _) rfl (fun args w => by go_simp) (fun w u h => g_rsign (by omega) w u ((zn_zv dx) _ _ h))
    · exact owe_bin rfl (wants_if 5 83 rfl (by kernel_rfl) rfl) rfl (opnd_op 10 88 (by kernel_rfl) rfl) (opnd_const _) rfl (fun ρ w h1 h2 => by exact run_gtr_int_t ρ _ _ _ w _ _ (sign_gt hx1) h1 h2)
    · exact owe_pick rfl (wants_all rfl) rfl (opnd_op 5 83 (by kernel_rfl) rfl) (fun _ => (opnd_op 11 89 (by kernel_rfl) rfl)) (fun h => nomatch h) rfl
    · exact owe_move rfl (wants_all rfl) (Or.inr rfl) (opnd_op 12 90 (by kernel_rfl) rfl) rfl
  intro B9 a9 W9 S9
  replace S9 : Sta w 91 [] [(6, (Is (.bool true))), (75, (Is (.bool false))), (73, (Is (.bool false))), (8, (Is (.int .i64 (k0 : Nat)))), (43, (Is (.bool false))), (11, (Is (.bool false))), (0, (Vv n As 1048576)), (1000001, TT)] B9 a9 W9 := S9
  refine wp_ret ?_
  exact end_one S9 rfl (res_tmp S9 0 6 rfl)

theorem matline_w (w : World) (u v x : Value) (n m l : Nat) (As Bs Cs : List Int) (h : Hs w (Vv n As 1048576) u) (h' : Hs w (Vv m Bs 1048576) v) (h'' : Hs w (Vv l Cs 1048576) x) (hn : n ≤ 1048576) (hm : m ≤ 1048576) (hl : l ≤ 1048576) (hT : Tab w) : Calls Tryd.prog 5 #[u, v, x] w (Gives (IS (.bool true)) w) := by
  have hlA := vv_len h.now
  rcases lead_cases As with ⟨c1, _⟩ | ⟨k0, a, c1, c2, c3, c4⟩
  · by_cases q1 : ordZ As Bs < 0
    · by_cases q2 : ordZ Bs Cs < 0
      · exact line_t0 w u v x n m l As Bs Cs h h' h'' hn hm hl hT q1 q2 c1
      · exact line_y0 w u v x n m l As Bs Cs h h' h'' hn hm hl hT q1 (by omega) c1
    · exact line_n0 w u v x n m l As Bs Cs h h' h'' hn hm hl hT (by omega) c1
  · obtain ⟨x0, e1, e2⟩ := up_pos c1
    have hk0 : k0 < n := by rw [← hlA]; exact (List.getElem?_eq_some_iff.1 c2).1
    by_cases q1 : ordZ As Bs < 0
    · by_cases q2 : ordZ Bs Cs < 0
      · exact line_t1 w u v x n m l As Bs Cs h h' h'' hn hm hl hT q1 q2 k0 c1 hk0 x0 e1 e2
      · exact line_y1 w u v x n m l As Bs Cs h h' h'' hn hm hl hT q1 (by omega) k0 c1 hk0 x0 e1 e2
    · exact line_n1 w u v x n m l As Bs Cs h h' h'' hn hm hl hT (by omega) k0 c1 hk0 x0 e1 e2
theorem matline_walk (w : World) (p0 : Option Addr) (n c0 : Nat) (es : List El) (p1 : Option Addr) (m c1 : Nat) (fs : List El) (p2 : Option Addr) (l c2 : Nat) (gs : List El) (h : Ls w p0 n c0 es) (h' : Ls w p1 m c1 fs) (h'' : Ls w p2 l c2 gs) (b0 : c0 ≤ 1048576) (b0' : ∀ (i : Nat) (e : El), es[i]? = some e → e.c ≤ 1048576) (b1 : c1 ≤ 1048576) (b1' : ∀ (i : Nat) (e : El), fs[i]? = some e → e.c ≤ 1048576) (b2 : c2 ≤ 1048576) (b2' : ∀ (i : Nat) (e : El), gs[i]? = some e → e.c ≤ 1048576) (ht : Tab w) :
    Calls Tryd.prog 5 #[.slice p0 n c0, .slice p1 m c1, .slice p2 l c2] w fun e w' => e = .returned (.bool true) ∧ Below w.heap.size w w' := by
  have q0 := h.cap
  have q1 := h'.cap
  have q2 := h''.cap
  refine (matline_w w _ _ _ n m l _ _ _ ((ls_hs h).imp (vx_vv (ls_n1 h b0') _)) ((ls_hs h').imp (vx_vv (ls_n1 h' b1') _)) ((ls_hs h'').imp (vx_vv (ls_n1 h'' b2') _)) (by omega) (by omega) (by omega) ht).mono ?_
  rintro e w' ⟨v, rfl, hb, hv⟩
  obtain rfl : v = _ := hv
  exact ⟨rfl, hb⟩
end Go.Proofs.YtdhjgekbocnnkaaDoor
