/-
  MatProducts' walk: it returns true and writes nothing that was there.
-/
import Derived.Test.YtiehipnaklkhjaaSetM
import Derived.Test.YtiehipnaklkhjaaMOwn
namespace Go.Proofs.Ytiehipnaklkhjaa
open Go Go.RowKit Nt
set_option linter.unusedSimpArgs false
set_option linter.unusedVariables false
set_option maxRecDepth 20000


theorem ml_zz' {ess : List (List El)} {k : Nat} (h : Ml ess k) : Ml (zz ess) k := fun i zs hz => by
  obtain ⟨es, he, rfl⟩ := map_get hz
  rw [List.length_map]
  exact h i es he
theorem ls_n' {w : World} {p : Option Addr} {n c k : Nat} {es : List El} (h : Ls w p n c es) (hC : ∀ (i : Nat) (e : El), es[i]? = some e → e.c ≤ k) : ∀ (i : Nat) (e : El), es[i]? = some e → e.n ≤ k := fun i e he => by
  obtain ⟨b, o, _, _, _, hs⟩ := h.lie i e he
  have := hs.cap
  have := hC i e he
  omega

set_option maxHeartbeats 8000000 in
theorem matproducts_w (w : World) (u v x : Value) (n m l : Nat) (es fs : List (List El)) (xs : List El) (h : Hs w (Mx n es) u) (h' : Hs w (Mx m fs) v) (hx : Hs w (Vx l xs) x) (hn : n ≤ 1048576) (hm : m ≤ 1048576) (hl : l ≤ 1048576) (hE : Me es El.n 1048576) (hF : Me fs El.n 1048576) (hEc : Me es El.c 35184372087808) (hFc : Me fs El.c 35184372087808) (hEl : Ml es 1048576) (hFl : Ml fs 1048576) (hX : ∀ (i : Nat) e, xs[i]? = some e → e.n ≤ 1048576) (hXc : ∀ (i : Nat) e, xs[i]? = some e → e.c ≤ 35184372087808) :
    Calls Try.prog 7 #[u, v, x] w (Gives (IS (.bool true)) w) := by
  have hEz := ml_zz' hEl
  have hFz := ml_zz' hFl
  refine calls_sta (sl := [(0, (Mx n es)), (1, (Mx m fs)), (2, (Vx l xs))]) Try.func7 rfl Try.ntmps7 (by simp) (args_cons rfl (h) (args_cons rfl (h') (args_cons rfl (hx) args_nil))) ?_
  intro a0 S0
  refine wp_stmt_seq [.val (Is (.bool false))] [] [.inl 0, .inr 0, .inr 1, .inr 2] follows S0 rfl (by kernel_rfl) ?_ ?_
  · refine ⟨trivial, ?_⟩
    · exact owe_move rfl (wants_all rfl) (Or.inr rfl) (opnd_const _) rfl
  intro B1 a1 W1 S1
  replace S1 : Sta w 98 [] [(6, (Is (.bool false))), (0, (Mx n es)), (1, (Mx m fs)), (2, (Vx l xs))] B1 a1 W1 := S1
  refine wp_stmt_seq [.val (Vx l xs),
      .val ((VO l xs) w.heap.size),
      .val (Mx m fs),
      .val ((MO m fs) w.heap.size),
      .val ((TWO (VN (combN (xs.map El.z) (zz fs)) (combE (xs.map El.z) (zz fs))) (IS (.int .i64 (errB (okC (xs.map El.z) (zz fs)))))) w.heap.size),
      .val ((TWO (VN (combN (xs.map El.z) (zz fs)) (combE (xs.map El.z) (zz fs))) (IS (.int .i64 (errB (okC (xs.map El.z) (zz fs)))))) w.heap.size),
      .val ((VN (combN (xs.map El.z) (zz fs)) (combE (xs.map El.z) (zz fs))) w.heap.size),
      .val (Is (.int .i64 (errB (okC (xs.map El.z) (zz fs))))),
      .val ((VN (combN (xs.map El.z) (zz fs)) (combE (xs.map El.z) (zz fs))) w.heap.size),
      .val (Is (.int .i64 (errB (okC (xs.map El.z) (zz fs)))))] [] [.inl 8, .inl 9, .inr 0, .inr 1, .inr 2, .inr 3] follows S1 rfl (by kernel_rfl) ?_ ?_
  · refine ⟨⟨⟨⟨⟨⟨⟨⟨⟨⟨trivial, ?_⟩, ?_⟩, ?_⟩, ?_⟩, ?_⟩, ?_⟩, ?_⟩, ?_⟩, ?_⟩, ?_⟩
    · exact owe_move rfl (wants_all rfl) (Or.inl rfl) (opnd_slot 3 2 rfl (by kernel_rfl)) rfl
    · exact owe_callh1 rfl (wants_all rfl) rfl (opnd_op 0 14 (by kernel_rfl) rfl) fresh_vo rfl (fun args w => by go_simp) (fun w u h => owns_w w u _ _ h hl hXc)
    · exact owe_move rfl (wants_all rfl) (Or.inl rfl) (opnd_slot 2 1 rfl (by kernel_rfl)) rfl
    · exact owe_callh1 rfl (wants_all rfl) rfl (opnd_op 2 16 (by kernel_rfl) rfl) fresh_mo rfl (fun args w => by go_simp) (fun w u h => ownm_w w u _ _ h hm hFl hFc)
    · exact owe_callh2 rfl (wants_all rfl) rfl ((opnd_op 1 15 (by kernel_rfl) rfl).imp (vo_vv hX)) ((opnd_op 3 17 (by kernel_rfl) rfl).imp (mo_mv hF)) (fresh_two fresh_vn (fresh_is _)) rfl (fun args w => by go_simp) (fun w u v h h' => h_comb w u v l m 1048576 1048576 _ _ h h' (by omega) (by omega) (by omega) hFz)
    · exact owe_move rfl (wants_all rfl) (Or.inl rfl) (opnd_op 4 18 (by kernel_rfl) rfl) rfl
    · exact owe_ext2 rfl (wants_all rfl) rfl (opnd_op 5 13 (by kernel_rfl) rfl) (Or.inl ⟨rfl, rfl⟩) rfl
    · exact owe_ext2 rfl (wants_all rfl) rfl (opnd_op 5 13 (by kernel_rfl) rfl) (Or.inr ⟨rfl, rfl⟩) rfl
    · exact owe_move rfl (wants_all rfl) (Or.inr rfl) (opnd_op 6 19 (by kernel_rfl) rfl) rfl
    · exact owe_move rfl (wants_all rfl) (Or.inr rfl) (opnd_op 7 20 (by kernel_rfl) rfl) rfl
  intro B2 a2 W2 S2
  replace S2 : Sta w 98 [] [(7, ((VN (combN (xs.map El.z) (zz fs)) (combE (xs.map El.z) (zz fs))) w.heap.size)), (8, (Is (.int .i64 (errB (okC (xs.map El.z) (zz fs)))))), (6, (Is (.bool false))), (0, (Mx n es)), (1, (Mx m fs)), (2, (Vx l xs))] B2 a2 W2 := S2
  refine wp_stmt_seq [.val (Vx l xs),
      .val (Mx m fs),
      .val ((TWO (VN (combN (xs.map El.z) (zz fs)) (combE (xs.map El.z) (zz fs))) (IS (.int .i64 (errB (okC (xs.map El.z) (zz fs)))))) w.heap.size),
      .val ((TWO (VN (combN (xs.map El.z) (zz fs)) (combE (xs.map El.z) (zz fs))) (IS (.int .i64 (errB (okC (xs.map El.z) (zz fs)))))) w.heap.size),
      .val ((VN (combN (xs.map El.z) (zz fs)) (combE (xs.map El.z) (zz fs))) w.heap.size),
      .val (Is (.int .i64 (errB (okC (xs.map El.z) (zz fs))))),
      .val ((VN (combN (xs.map El.z) (zz fs)) (combE (xs.map El.z) (zz fs))) w.heap.size),
      .val (Is (.int .i64 (errB (okC (xs.map El.z) (zz fs)))))] [] [.inl 6, .inl 7, .inr 0, .inr 1, .inr 2, .inr 3, .inr 4, .inr 5] follows S2 rfl (by kernel_rfl) ?_ ?_
  · refine ⟨⟨⟨⟨⟨⟨⟨⟨trivial, ?_⟩, ?_⟩, ?_⟩, ?_⟩, ?_⟩, ?_⟩, ?_⟩, ?_⟩
    · exact owe_move rfl (wants_all rfl) (Or.inl rfl) (opnd_slot 5 2 rfl (by kernel_rfl)) rfl
    · exact owe_move rfl (wants_all rfl) (Or.inl rfl) (opnd_slot 4 1 rfl (by kernel_rfl)) rfl
    · exact owe_callh2 rfl (wants_all rfl) rfl ((opnd_op 0 22 (by kernel_rfl) rfl).imp (vx_vv hX)) ((opnd_op 1 23 (by kernel_rfl) rfl).imp (mx_mv hF)) (fresh_two fresh_vn (fresh_is _)) rfl (fun args w => by go_simp) (fun w u v h h' => h_rcomb w u v l m 1048576 1048576 _ _ h h' (by omega) (by omega) (by omega) hFz)
    · exact owe_move rfl (wants_all rfl) (Or.inl rfl) (opnd_op 2 24 (by kernel_rfl) rfl) rfl
    · exact owe_ext2 rfl (wants_all rfl) rfl (opnd_op 3 21 (by kernel_rfl) rfl) (Or.inl ⟨rfl, rfl⟩) rfl
    · exact owe_ext2 rfl (wants_all rfl) rfl (opnd_op 3 21 (by kernel_rfl) rfl) (Or.inr ⟨rfl, rfl⟩) rfl
    · exact owe_move rfl (wants_all rfl) (Or.inr rfl) (opnd_op 4 25 (by kernel_rfl) rfl) rfl
    · exact owe_move rfl (wants_all rfl) (Or.inr rfl) (opnd_op 5 26 (by kernel_rfl) rfl) rfl
  intro B3 a3 W3 S3
  replace S3 : Sta w 98 [] [(9, ((VN (combN (xs.map El.z) (zz fs)) (combE (xs.map El.z) (zz fs))) w.heap.size)), (10, (Is (.int .i64 (errB (okC (xs.map El.z) (zz fs)))))), (7, ((VN (combN (xs.map El.z) (zz fs)) (combE (xs.map El.z) (zz fs))) w.heap.size)), (8, (Is (.int .i64 (errB (okC (xs.map El.z) (zz fs)))))), (6, (Is (.bool false))), (0, (Mx n es)), (1, (Mx m fs)), (2, (Vx l xs))] B3 a3 W3 := S3
  refine wp_seq ?_
  refine wp_stmt_seq [.val (Is (.int .i64 (errB (okC (xs.map El.z) (zz fs))))),
      .val (Is (.int .i64 (errB (okC (xs.map El.z) (zz fs))))),
      .val (Is (.bool false)),
      .val (Is (.bool false)),
      .val ((VN (combN (xs.map El.z) (zz fs)) (combE (xs.map El.z) (zz fs))) w.heap.size),
      .val ((VN (combN (xs.map El.z) (zz fs)) (combE (xs.map El.z) (zz fs))) w.heap.size),
      .val (Is (.bool true)),
      .val (Is (.bool false)),
      .val (Is (.bool false))] [] [.inl 8, .inr 1, .inr 3, .inr 4, .inr 5, .inr 6, .inr 7] follows S3 rfl (by kernel_rfl) ?_ ?_
  · refine ⟨⟨⟨⟨⟨⟨⟨⟨⟨trivial, ?_⟩, ?_⟩, ?_⟩, ?_⟩, ?_⟩, ?_⟩, ?_⟩, ?_⟩, ?_⟩
    · exact owe_move rfl (wants_all rfl) (Or.inl rfl) (opnd_slot 3 8 rfl (by kernel_rfl)) rfl
    · exact owe_move rfl (wants_all rfl) (Or.inl rfl) (opnd_slot 1 10 rfl (by kernel_rfl)) rfl
    · exact owe_bin rfl (wants_all rfl) rfl (opnd_op 0 27 (by kernel_rfl) rfl) (opnd_op 1 28 (by kernel_rfl) rfl) rfl (fun ρ w h1 h2 => by exact run_neq_int_f ρ _ _ _ w _ _ rfl h1 h2)
    · exact owe_move rfl (wants_all rfl) (Or.inl rfl) (opnd_op 2 29 (by kernel_rfl) rfl) rfl
    · exact owe_move rfl (wants_if 3 30 rfl (by kernel_rfl) rfl) (Or.inl rfl) (opnd_slot 2 7 rfl (by kernel_rfl)) rfl
    · exact owe_move rfl (wants_if 3 30 rfl (by kernel_rfl) rfl) (Or.inl rfl) (opnd_slot 0 9 rfl (by kernel_rfl)) rfl
    · exact owe_callh2 rfl (wants_if 3 30 rfl (by kernel_rfl) rfl) rfl ((opnd_op 4 31 (by kernel_rfl) rfl).imp vn_vs) ((opnd_op 5 32 (by kernel_rfl) rfl).imp vn_vs) (fresh_is _) rfl (fun args w => by go_simp) (fun w u v h h' => eqs_w w u v (combN (xs.map El.z) (zz fs)) _ h h')
    · exact owe_un (x := .tmp 33) rfl (wants_if 3 30 rfl (by kernel_rfl) rfl) rfl (opnd_op 6 33 (by kernel_rfl) rfl) rfl (fun ρ w h1 => run_not ρ _ _ w _ h1)
    · exact owe_pick rfl (wants_all rfl) rfl (opnd_op 3 30 (by kernel_rfl) rfl) (fun h => nomatch h) (fun _ => (opnd_op 7 34 (by kernel_rfl) rfl)) rfl
  intro B4 a4 W4 S4
  replace S4 : Sta w 98 [] [(35, (Is (.bool false))), (10, (Is (.int .i64 (errB (okC (xs.map El.z) (zz fs)))))), (8, (Is (.int .i64 (errB (okC (xs.map El.z) (zz fs)))))), (6, (Is (.bool false))), (0, (Mx n es)), (1, (Mx m fs)), (2, (Vx l xs))] B4 a4 W4 := S4
  refine wp_cond_false (S4.bool 0 35 rfl) ?_
  refine wp_skip ?_
  refine thenN ?_
  refine wp_stmt_seq [.val (Mx n es),
      .val ((MO n es) w.heap.size),
      .val (Mx m fs),
      .val ((MO m fs) w.heap.size),
      .val ((TWO (MN (prodN (zz es) (zz fs)) (prodE (zz es) (zz fs))) (IS (.int .i64 (errB (okP (zz es) (zz fs)))))) w.heap.size),
      .val ((TWO (MN (prodN (zz es) (zz fs)) (prodE (zz es) (zz fs))) (IS (.int .i64 (errB (okP (zz es) (zz fs)))))) w.heap.size),
      .val ((MN (prodN (zz es) (zz fs)) (prodE (zz es) (zz fs))) w.heap.size),
      .val (Is (.int .i64 (errB (okP (zz es) (zz fs))))),
      .val ((MN (prodN (zz es) (zz fs)) (prodE (zz es) (zz fs))) w.heap.size),
      .val (Is (.int .i64 (errB (okP (zz es) (zz fs)))))] [] [.inl 8, .inl 9, .inr 0, .inr 1, .inr 3, .inr 4, .inr 5, .inr 6] follows S4 rfl (by kernel_rfl) ?_ ?_
  · refine ⟨⟨⟨⟨⟨⟨⟨⟨⟨⟨trivial, ?_⟩, ?_⟩, ?_⟩, ?_⟩, ?_⟩, ?_⟩, ?_⟩, ?_⟩, ?_⟩, ?_⟩
    · exact owe_move rfl (wants_all rfl) (Or.inl rfl) (opnd_slot 4 0 rfl (by kernel_rfl)) rfl
    · exact owe_callh1 rfl (wants_all rfl) rfl (opnd_op 0 37 (by kernel_rfl) rfl) fresh_mo rfl (fun args w => by go_simp) (fun w u h => ownm_w w u _ _ h hn hEl hEc)
    · exact owe_move rfl (wants_all rfl) (Or.inl rfl) (opnd_slot 5 1 rfl (by kernel_rfl)) rfl
    · exact owe_callh1 rfl (wants_all rfl) rfl (opnd_op 2 39 (by kernel_rfl) rfl) fresh_mo rfl (fun args w => by go_simp) (fun w u h => ownm_w w u _ _ h hm hFl hFc)
    · exact owe_callh2 rfl (wants_all rfl) rfl ((opnd_op 1 38 (by kernel_rfl) rfl).imp (mo_mv hE)) ((opnd_op 3 40 (by kernel_rfl) rfl).imp (mo_mv hF)) (fresh_two fresh_mn (fresh_is _)) rfl (fun args w => by go_simp) (fun w u v h h' => h_prod w u v n m 1048576 1048576 _ _ h h' (by omega) (by omega) (by omega) hFz)
    · exact owe_move rfl (wants_all rfl) (Or.inl rfl) (opnd_op 4 41 (by kernel_rfl) rfl) rfl
    · exact owe_ext2 rfl (wants_all rfl) rfl (opnd_op 5 36 (by kernel_rfl) rfl) (Or.inl ⟨rfl, rfl⟩) rfl
    · exact owe_ext2 rfl (wants_all rfl) rfl (opnd_op 5 36 (by kernel_rfl) rfl) (Or.inr ⟨rfl, rfl⟩) rfl
    · exact owe_move rfl (wants_all rfl) (Or.inr rfl) (opnd_op 6 42 (by kernel_rfl) rfl) rfl
    · exact owe_move rfl (wants_all rfl) (Or.inr rfl) (opnd_op 7 43 (by kernel_rfl) rfl) rfl
  intro B5 a5 W5 S5
  replace S5 : Sta w 98 [] [(11, ((MN (prodN (zz es) (zz fs)) (prodE (zz es) (zz fs))) w.heap.size)), (8, (Is (.int .i64 (errB (okP (zz es) (zz fs)))))), (35, (Is (.bool false))), (10, (Is (.int .i64 (errB (okC (xs.map El.z) (zz fs)))))), (6, (Is (.bool false))), (0, (Mx n es)), (1, (Mx m fs)), (2, (Vx l xs))] B5 a5 W5 := S5
  refine wp_stmt_seq [.val (Mx n es),
      .val (Mx m fs),
      .val ((TWO (MN (prodN (zz es) (zz fs)) (prodE (zz es) (zz fs))) (IS (.int .i64 (errB (okP (zz es) (zz fs)))))) w.heap.size),
      .val ((TWO (MN (prodN (zz es) (zz fs)) (prodE (zz es) (zz fs))) (IS (.int .i64 (errB (okP (zz es) (zz fs)))))) w.heap.size),
      .val ((MN (prodN (zz es) (zz fs)) (prodE (zz es) (zz fs))) w.heap.size),
      .val (Is (.int .i64 (errB (okP (zz es) (zz fs))))),
      .val ((MN (prodN (zz es) (zz fs)) (prodE (zz es) (zz fs))) w.heap.size),
      .val (Is (.int .i64 (errB (okP (zz es) (zz fs)))))] [] [.inl 6, .inl 7, .inr 0, .inr 1, .inr 2, .inr 4, .inr 5, .inr 6, .inr 7] follows S5 rfl (by kernel_rfl) ?_ ?_
  · refine ⟨⟨⟨⟨⟨⟨⟨⟨trivial, ?_⟩, ?_⟩, ?_⟩, ?_⟩, ?_⟩, ?_⟩, ?_⟩, ?_⟩
    · exact owe_move rfl (wants_all rfl) (Or.inl rfl) (opnd_slot 5 0 rfl (by kernel_rfl)) rfl
    · exact owe_move rfl (wants_all rfl) (Or.inl rfl) (opnd_slot 6 1 rfl (by kernel_rfl)) rfl
    · exact owe_callh2 rfl (wants_all rfl) rfl ((opnd_op 0 45 (by kernel_rfl) rfl).imp (mx_mv hE)) ((opnd_op 1 46 (by kernel_rfl) rfl).imp (mx_mv hF)) (fresh_two fresh_mn (fresh_is _)) rfl (fun args w => by go_simp) (fun w u v h h' => h_rprod w u v n m 1048576 1048576 _ _ h h' (by omega) (by omega) (by omega) hFz)
    · exact owe_move rfl (wants_all rfl) (Or.inl rfl) (opnd_op 2 47 (by kernel_rfl) rfl) rfl
    · exact owe_ext2 rfl (wants_all rfl) rfl (opnd_op 3 44 (by kernel_rfl) rfl) (Or.inl ⟨rfl, rfl⟩) rfl
    · exact owe_ext2 rfl (wants_all rfl) rfl (opnd_op 3 44 (by kernel_rfl) rfl) (Or.inr ⟨rfl, rfl⟩) rfl
    · exact owe_move rfl (wants_all rfl) (Or.inr rfl) (opnd_op 4 48 (by kernel_rfl) rfl) rfl
    · exact owe_move rfl (wants_all rfl) (Or.inr rfl) (opnd_op 5 49 (by kernel_rfl) rfl) rfl
  intro B6 a6 W6 S6
  replace S6 : Sta w 98 [] [(12, ((MN (prodN (zz es) (zz fs)) (prodE (zz es) (zz fs))) w.heap.size)), (10, (Is (.int .i64 (errB (okP (zz es) (zz fs)))))), (11, ((MN (prodN (zz es) (zz fs)) (prodE (zz es) (zz fs))) w.heap.size)), (8, (Is (.int .i64 (errB (okP (zz es) (zz fs)))))), (35, (Is (.bool false))), (6, (Is (.bool false))), (0, (Mx n es)), (1, (Mx m fs)), (2, (Vx l xs))] B6 a6 W6 := S6
  refine wp_seq ?_
  refine wp_stmt_seq [.val (Is (.int .i64 (errB (okP (zz es) (zz fs))))),
      .val (Is (.int .i64 (errB (okP (zz es) (zz fs))))),
      .val (Is (.bool false)),
      .val (Is (.bool false)),
      .val ((MN (prodN (zz es) (zz fs)) (prodE (zz es) (zz fs))) w.heap.size),
      .val ((MN (prodN (zz es) (zz fs)) (prodE (zz es) (zz fs))) w.heap.size),
      .val (Is (.bool true)),
      .val (Is (.bool false)),
      .val (Is (.bool false))] [] [.inl 8, .inr 0, .inr 1, .inr 2, .inr 3, .inr 4, .inr 5, .inr 6, .inr 7, .inr 8] follows S6 rfl (by kernel_rfl) ?_ ?_
  · refine ⟨⟨⟨⟨⟨⟨⟨⟨⟨trivial, ?_⟩, ?_⟩, ?_⟩, ?_⟩, ?_⟩, ?_⟩, ?_⟩, ?_⟩, ?_⟩
    · exact owe_move rfl (wants_all rfl) (Or.inl rfl) (opnd_slot 3 8 rfl (by kernel_rfl)) rfl
    · exact owe_move rfl (wants_all rfl) (Or.inl rfl) (opnd_slot 1 10 rfl (by kernel_rfl)) rfl
    · exact owe_bin rfl (wants_all rfl) rfl (opnd_op 0 50 (by kernel_rfl) rfl) (opnd_op 1 51 (by kernel_rfl) rfl) rfl (fun ρ w h1 h2 => by exact run_neq_int_f ρ _ _ _ w _ _ rfl h1 h2)
    · exact owe_move rfl (wants_all rfl) (Or.inl rfl) (opnd_op 2 52 (by kernel_rfl) rfl) rfl
    · exact owe_move rfl (wants_if 3 53 rfl (by kernel_rfl) rfl) (Or.inl rfl) (opnd_slot 2 11 rfl (by kernel_rfl)) rfl
    · exact owe_move rfl (wants_if 3 53 rfl (by kernel_rfl) rfl) (Or.inl rfl) (opnd_slot 0 12 rfl (by kernel_rfl)) rfl
    · exact owe_callh2 rfl (wants_if 3 53 rfl (by kernel_rfl) rfl) rfl ((opnd_op 4 54 (by kernel_rfl) rfl).imp mn_mg) ((opnd_op 5 55 (by kernel_rfl) rfl).imp mn_mg) (fresh_is _) rfl (fun args w => by go_simp) (fun w u v h h' => eqm_w w u v (prodN (zz es) (zz fs)) _ h h')
    · exact owe_un (x := .tmp 56) rfl (wants_if 3 53 rfl (by kernel_rfl) rfl) rfl (opnd_op 6 56 (by kernel_rfl) rfl) rfl (fun ρ w h1 => run_not ρ _ _ w _ h1)
    · exact owe_pick rfl (wants_all rfl) rfl (opnd_op 3 53 (by kernel_rfl) rfl) (fun h => nomatch h) (fun _ => (opnd_op 7 57 (by kernel_rfl) rfl)) rfl
  intro B7 a7 W7 S7
  replace S7 : Sta w 98 [] [(58, (Is (.bool false))), (12, ((MN (prodN (zz es) (zz fs)) (prodE (zz es) (zz fs))) w.heap.size)), (10, (Is (.int .i64 (errB (okP (zz es) (zz fs)))))), (11, ((MN (prodN (zz es) (zz fs)) (prodE (zz es) (zz fs))) w.heap.size)), (8, (Is (.int .i64 (errB (okP (zz es) (zz fs)))))), (35, (Is (.bool false))), (6, (Is (.bool false))), (0, (Mx n es)), (1, (Mx m fs)), (2, (Vx l xs))] B7 a7 W7 := S7
  refine wp_cond_false (S7.bool 0 58 rfl) ?_
  refine wp_skip ?_
  refine thenN ?_
  refine wp_stmt_seq [.val (Mx m fs),
      .val ((MO m fs) w.heap.size),
      .val ((TWO (MN (turnN (zz fs)) (turnE (zz fs))) (IS (.int .i64 (errB (reg (zz fs)))))) w.heap.size),
      .val ((TWO (MN (turnN (zz fs)) (turnE (zz fs))) (IS (.int .i64 (errB (reg (zz fs)))))) w.heap.size),
      .val ((MN (turnN (zz fs)) (turnE (zz fs))) w.heap.size),
      .val (Is (.int .i64 (errB (reg (zz fs))))),
      .val ((MN (turnN (zz fs)) (turnE (zz fs))) w.heap.size),
      .val (Is (.int .i64 (errB (reg (zz fs)))))] [] [.inl 6, .inl 7, .inr 0, .inr 1, .inr 2, .inr 5, .inr 6, .inr 7, .inr 8, .inr 9] follows S7 rfl (by kernel_rfl) ?_ ?_
  · refine ⟨⟨⟨⟨⟨⟨⟨⟨trivial, ?_⟩, ?_⟩, ?_⟩, ?_⟩, ?_⟩, ?_⟩, ?_⟩, ?_⟩
    · exact owe_move rfl (wants_all rfl) (Or.inl rfl) (opnd_slot 8 1 rfl (by kernel_rfl)) rfl
    · exact owe_callh1 rfl (wants_all rfl) rfl (opnd_op 0 60 (by kernel_rfl) rfl) fresh_mo rfl (fun args w => by go_simp) (fun w u h => ownm_w w u _ _ h hm hFl hFc)
    · exact owe_callh1 rfl (wants_all rfl) rfl ((opnd_op 1 61 (by kernel_rfl) rfl).imp (mo_mv hF)) (fresh_two fresh_mn (fresh_is _)) rfl (fun args w => by go_simp) (fun w u h => h_turn w u m 1048576 _ h (by omega) (by omega) hFz)
    · exact owe_move rfl (wants_all rfl) (Or.inl rfl) (opnd_op 2 62 (by kernel_rfl) rfl) rfl
    · exact owe_ext2 rfl (wants_all rfl) rfl (opnd_op 3 59 (by kernel_rfl) rfl) (Or.inl ⟨rfl, rfl⟩) rfl
    · exact owe_ext2 rfl (wants_all rfl) rfl (opnd_op 3 59 (by kernel_rfl) rfl) (Or.inr ⟨rfl, rfl⟩) rfl
    · exact owe_move rfl (wants_all rfl) (Or.inr rfl) (opnd_op 4 63 (by kernel_rfl) rfl) rfl
    · exact owe_move rfl (wants_all rfl) (Or.inr rfl) (opnd_op 5 64 (by kernel_rfl) rfl) rfl
  intro B8 a8 W8 S8
  replace S8 : Sta w 98 [] [(11, ((MN (turnN (zz fs)) (turnE (zz fs))) w.heap.size)), (8, (Is (.int .i64 (errB (reg (zz fs)))))), (58, (Is (.bool false))), (12, ((MN (prodN (zz es) (zz fs)) (prodE (zz es) (zz fs))) w.heap.size)), (10, (Is (.int .i64 (errB (okP (zz es) (zz fs)))))), (35, (Is (.bool false))), (6, (Is (.bool false))), (0, (Mx n es)), (1, (Mx m fs)), (2, (Vx l xs))] B8 a8 W8 := S8
  refine wp_stmt_seq [.val (Mx m fs),
      .val ((TWO (MN (turnN (zz fs)) (turnE (zz fs))) (IS (.int .i64 (errB (reg (zz fs)))))) w.heap.size),
      .val ((TWO (MN (turnN (zz fs)) (turnE (zz fs))) (IS (.int .i64 (errB (reg (zz fs)))))) w.heap.size),
      .val ((MN (turnN (zz fs)) (turnE (zz fs))) w.heap.size),
      .val (Is (.int .i64 (errB (reg (zz fs))))),
      .val ((MN (turnN (zz fs)) (turnE (zz fs))) w.heap.size),
      .val (Is (.int .i64 (errB (reg (zz fs)))))] [] [.inl 5, .inl 6, .inr 0, .inr 1, .inr 2, .inr 5, .inr 6, .inr 7, .inr 8, .inr 9] follows S8 rfl (by kernel_rfl) ?_ ?_
  · refine ⟨⟨⟨⟨⟨⟨⟨trivial, ?_⟩, ?_⟩, ?_⟩, ?_⟩, ?_⟩, ?_⟩, ?_⟩
    · exact owe_move rfl (wants_all rfl) (Or.inl rfl) (opnd_slot 8 1 rfl (by kernel_rfl)) rfl
    · exact owe_callh1 rfl (wants_all rfl) rfl ((opnd_op 0 66 (by kernel_rfl) rfl).imp (mx_mv hF)) (fresh_two fresh_mn (fresh_is _)) rfl (fun args w => by go_simp) (fun w u h => h_rturn w u m 1048576 _ h (by omega) (by omega) hFz)
    · exact owe_move rfl (wants_all rfl) (Or.inl rfl) (opnd_op 1 67 (by kernel_rfl) rfl) rfl
    · exact owe_ext2 rfl (wants_all rfl) rfl (opnd_op 2 65 (by kernel_rfl) rfl) (Or.inl ⟨rfl, rfl⟩) rfl
    · exact owe_ext2 rfl (wants_all rfl) rfl (opnd_op 2 65 (by kernel_rfl) rfl) (Or.inr ⟨rfl, rfl⟩) rfl
    · exact owe_move rfl (wants_all rfl) (Or.inr rfl) (opnd_op 3 68 (by kernel_rfl) rfl) rfl
    · exact owe_move rfl (wants_all rfl) (Or.inr rfl) (opnd_op 4 69 (by kernel_rfl) rfl) rfl
  intro B9 a9 W9 S9
  replace S9 : Sta w 98 [] [(12, ((MN (turnN (zz fs)) (turnE (zz fs))) w.heap.size)), (10, (Is (.int .i64 (errB (reg (zz fs)))))), (11, ((MN (turnN (zz fs)) (turnE (zz fs))) w.heap.size)), (8, (Is (.int .i64 (errB (reg (zz fs)))))), (58, (Is (.bool false))), (35, (Is (.bool false))), (6, (Is (.bool false))), (0, (Mx n es)), (1, (Mx m fs)), (2, (Vx l xs))] B9 a9 W9 := S9
  refine wp_seq ?_
  refine wp_stmt_seq [.val (Is (.int .i64 (errB (reg (zz fs))))),
      .val (Is (.int .i64 (errB (reg (zz fs))))),
      .val (Is (.bool false)),
      .val (Is (.bool false)),
      .val ((MN (turnN (zz fs)) (turnE (zz fs))) w.heap.size),
      .val ((MN (turnN (zz fs)) (turnE (zz fs))) w.heap.size),
      .val (Is (.bool true)),
      .val (Is (.bool false)),
      .val (Is (.bool false))] [] [.inl 8, .inr 0, .inr 1, .inr 2, .inr 3, .inr 4, .inr 5, .inr 6, .inr 7, .inr 8, .inr 9] follows S9 rfl (by kernel_rfl) ?_ ?_
  · refine ⟨⟨⟨⟨⟨⟨⟨⟨⟨trivial, ?_⟩, ?_⟩, ?_⟩, ?_⟩, ?_⟩, ?_⟩, ?_⟩, ?_⟩, ?_⟩
    · exact owe_move rfl (wants_all rfl) (Or.inl rfl) (opnd_slot 3 8 rfl (by kernel_rfl)) rfl
    · exact owe_move rfl (wants_all rfl) (Or.inl rfl) (opnd_slot 1 10 rfl (by kernel_rfl)) rfl
    · exact owe_bin rfl (wants_all rfl) rfl (opnd_op 0 70 (by kernel_rfl) rfl) (opnd_op 1 71 (by kernel_rfl) rfl) rfl (fun ρ w h1 h2 => by exact run_neq_int_f ρ _ _ _ w _ _ rfl h1 h2)
    · exact owe_move rfl (wants_all rfl) (Or.inl rfl) (opnd_op 2 72 (by kernel_rfl) rfl) rfl
    · exact owe_move rfl (wants_if 3 73 rfl (by kernel_rfl) rfl) (Or.inl rfl) (opnd_slot 2 11 rfl (by kernel_rfl)) rfl
    · exact owe_move rfl (wants_if 3 73 rfl (by kernel_rfl) rfl) (Or.inl rfl) (opnd_slot 0 12 rfl (by kernel_rfl)) rfl
    · exact owe_callh2 rfl (wants_if 3 73 rfl (by kernel_rfl) rfl) rfl ((opnd_op 4 74 (by kernel_rfl) rfl).imp mn_mg) ((opnd_op 5 75 (by kernel_rfl) rfl).imp mn_mg) (fresh_is _) rfl (fun args w => by go_simp) (fun w u v h h' => eqm_w w u v (turnN (zz fs)) _ h h')
    · exact owe_un (x := .tmp 76) rfl (wants_if 3 73 rfl (by kernel_rfl) rfl) rfl (opnd_op 6 76 (by kernel_rfl) rfl) rfl (fun ρ w h1 => run_not ρ _ _ w _ h1)
    · exact owe_pick rfl (wants_all rfl) rfl (opnd_op 3 73 (by kernel_rfl) rfl) (fun h => nomatch h) (fun _ => (opnd_op 7 77 (by kernel_rfl) rfl)) rfl
  intro B10 a10 W10 S10
  replace S10 : Sta w 98 [] [(78, (Is (.bool false))), (12, ((MN (turnN (zz fs)) (turnE (zz fs))) w.heap.size)), (10, (Is (.int .i64 (errB (reg (zz fs)))))), (11, ((MN (turnN (zz fs)) (turnE (zz fs))) w.heap.size)), (8, (Is (.int .i64 (errB (reg (zz fs)))))), (58, (Is (.bool false))), (35, (Is (.bool false))), (6, (Is (.bool false))), (0, (Mx n es)), (1, (Mx m fs)), (2, (Vx l xs))] B10 a10 W10 := S10
  refine wp_cond_false (S10.bool 0 78 rfl) ?_
  refine wp_skip ?_
  refine thenN ?_
  refine wp_stmt_seq [.val (Mx m fs),
      .val ((MO m fs) w.heap.size),
      .val ((TWO (MN (gramN (zz fs)) (gramE (zz fs))) (IS (.int .i64 (errB (reg (zz fs)))))) w.heap.size),
      .val ((TWO (MN (gramN (zz fs)) (gramE (zz fs))) (IS (.int .i64 (errB (reg (zz fs)))))) w.heap.size),
      .val ((MN (gramN (zz fs)) (gramE (zz fs))) w.heap.size),
      .val (Is (.int .i64 (errB (reg (zz fs))))),
      .val ((MN (gramN (zz fs)) (gramE (zz fs))) w.heap.size),
      .val (Is (.int .i64 (errB (reg (zz fs)))))] [] [.inl 6, .inl 7, .inr 0, .inr 1, .inr 2, .inr 5, .inr 6, .inr 7, .inr 8, .inr 9, .inr 10] follows S10 rfl (by kernel_rfl) ?_ ?_
  · refine ⟨⟨⟨⟨⟨⟨⟨⟨trivial, ?_⟩, ?_⟩, ?_⟩, ?_⟩, ?_⟩, ?_⟩, ?_⟩, ?_⟩
    · exact owe_move rfl (wants_all rfl) (Or.inl rfl) (opnd_slot 9 1 rfl (by kernel_rfl)) rfl
    · exact owe_callh1 rfl (wants_all rfl) rfl (opnd_op 0 80 (by kernel_rfl) rfl) fresh_mo rfl (fun args w => by go_simp) (fun w u h => ownm_w w u _ _ h hm hFl hFc)
    · exact owe_callh1 rfl (wants_all rfl) rfl ((opnd_op 1 81 (by kernel_rfl) rfl).imp (mo_mv hF)) (fresh_two fresh_mn (fresh_is _)) rfl (fun args w => by go_simp) (fun w u h => h_gram w u m 1048576 _ h (by omega) (by omega) hFz)
    · exact owe_move rfl (wants_all rfl) (Or.inl rfl) (opnd_op 2 82 (by kernel_rfl) rfl) rfl
    · exact owe_ext2 rfl (wants_all rfl) rfl (opnd_op 3 79 (by kernel_rfl) rfl) (Or.inl ⟨rfl, rfl⟩) rfl
    · exact owe_ext2 rfl (wants_all rfl) rfl (opnd_op 3 79 (by kernel_rfl) rfl) (Or.inr ⟨rfl, rfl⟩) rfl
    · exact owe_move rfl (wants_all rfl) (Or.inr rfl) (opnd_op 4 83 (by kernel_rfl) rfl) rfl
    · exact owe_move rfl (wants_all rfl) (Or.inr rfl) (opnd_op 5 84 (by kernel_rfl) rfl) rfl
  intro B11 a11 W11 S11
  replace S11 : Sta w 98 [] [(11, ((MN (gramN (zz fs)) (gramE (zz fs))) w.heap.size)), (8, (Is (.int .i64 (errB (reg (zz fs)))))), (78, (Is (.bool false))), (12, ((MN (turnN (zz fs)) (turnE (zz fs))) w.heap.size)), (10, (Is (.int .i64 (errB (reg (zz fs)))))), (58, (Is (.bool false))), (35, (Is (.bool false))), (6, (Is (.bool false))), (0, (Mx n es)), (1, (Mx m fs)), (2, (Vx l xs))] B11 a11 W11 := S11
  refine wp_stmt_seq [.val (Mx m fs),
      .val ((TWO (MN (gramN (zz fs)) (gramE (zz fs))) (IS (.int .i64 (errB (reg (zz fs)))))) w.heap.size),
      .val ((TWO (MN (gramN (zz fs)) (gramE (zz fs))) (IS (.int .i64 (errB (reg (zz fs)))))) w.heap.size),
      .val ((MN (gramN (zz fs)) (gramE (zz fs))) w.heap.size),
      .val (Is (.int .i64 (errB (reg (zz fs))))),
      .val ((MN (gramN (zz fs)) (gramE (zz fs))) w.heap.size),
      .val (Is (.int .i64 (errB (reg (zz fs)))))] [] [.inl 5, .inl 6, .inr 0, .inr 1, .inr 2, .inr 5, .inr 6, .inr 7, .inr 8, .inr 9, .inr 10] follows S11 rfl (by kernel_rfl) ?_ ?_
  · refine ⟨⟨⟨⟨⟨⟨⟨trivial, ?_⟩, ?_⟩, ?_⟩, ?_⟩, ?_⟩, ?_⟩, ?_⟩
    · exact owe_move rfl (wants_all rfl) (Or.inl rfl) (opnd_slot 9 1 rfl (by kernel_rfl)) rfl
    · exact owe_callh1 rfl (wants_all rfl) rfl ((opnd_op 0 86 (by kernel_rfl) rfl).imp (mx_mv hF)) (fresh_two fresh_mn (fresh_is _)) rfl (fun args w => by go_simp) (fun w u h => h_rgram w u m 1048576 _ h (by omega) (by omega) hFz)
    · exact owe_move rfl (wants_all rfl) (Or.inl rfl) (opnd_op 1 87 (by kernel_rfl) rfl) rfl
    · exact owe_ext2 rfl (wants_all rfl) rfl (opnd_op 2 85 (by kernel_rfl) rfl) (Or.inl ⟨rfl, rfl⟩) rfl
    · exact owe_ext2 rfl (wants_all rfl) rfl (opnd_op 2 85 (by kernel_rfl) rfl) (Or.inr ⟨rfl, rfl⟩) rfl
    · exact owe_move rfl (wants_all rfl) (Or.inr rfl) (opnd_op 3 88 (by kernel_rfl) rfl) rfl
    · exact owe_move rfl (wants_all rfl) (Or.inr rfl) (opnd_op 4 89 (by kernel_rfl) rfl) rfl
  intro B12 a12 W12 S12
  replace S12 : Sta w 98 [] [(12, ((MN (gramN (zz fs)) (gramE (zz fs))) w.heap.size)), (10, (Is (.int .i64 (errB (reg (zz fs)))))), (11, ((MN (gramN (zz fs)) (gramE (zz fs))) w.heap.size)), (8, (Is (.int .i64 (errB (reg (zz fs)))))), (78, (Is (.bool false))), (58, (Is (.bool false))), (35, (Is (.bool false))), (6, (Is (.bool false))), (0, (Mx n es)), (1, (Mx m fs)), (2, (Vx l xs))] B12 a12 W12 := S12
  refine wp_stmt_seq [.val (Is (.int .i64 (errB (reg (zz fs))))),
      .val (Is (.int .i64 (errB (reg (zz fs))))),
      .val (Is (.bool true)),
      .val (Is (.bool true)),
      .val ((MN (gramN (zz fs)) (gramE (zz fs))) w.heap.size),
      .val ((MN (gramN (zz fs)) (gramE (zz fs))) w.heap.size),
      .val (Is (.bool true)),
      .val (Is (.bool true)),
      .val (Is (.bool true))] [] [.inl 8, .inr 0, .inr 1, .inr 2, .inr 3, .inr 4, .inr 5, .inr 6, .inr 8, .inr 9, .inr 10] follows S12 rfl (by kernel_rfl) ?_ ?_
  · refine ⟨⟨⟨⟨⟨⟨⟨⟨⟨trivial, ?_⟩, ?_⟩, ?_⟩, ?_⟩, ?_⟩, ?_⟩, ?_⟩, ?_⟩, ?_⟩
    · exact owe_move rfl (wants_all rfl) (Or.inl rfl) (opnd_slot 3 8 rfl (by kernel_rfl)) rfl
    · exact owe_move rfl (wants_all rfl) (Or.inl rfl) (opnd_slot 1 10 rfl (by kernel_rfl)) rfl
    · exact owe_bin rfl (wants_all rfl) rfl (opnd_op 0 90 (by kernel_rfl) rfl) (opnd_op 1 91 (by kernel_rfl) rfl) rfl (fun ρ w h1 h2 => by exact run_eql_int_t ρ _ _ _ w _ _ rfl h1 h2)
    · exact owe_move rfl (wants_all rfl) (Or.inl rfl) (opnd_op 2 92 (by kernel_rfl) rfl) rfl
    · exact owe_move rfl (wants_if 3 93 rfl (by kernel_rfl) rfl) (Or.inl rfl) (opnd_slot 2 11 rfl (by kernel_rfl)) rfl
    · exact owe_move rfl (wants_if 3 93 rfl (by kernel_rfl) rfl) (Or.inl rfl) (opnd_slot 0 12 rfl (by kernel_rfl)) rfl
    · exact owe_callh2 rfl (wants_if 3 93 rfl (by kernel_rfl) rfl) rfl ((opnd_op 4 94 (by kernel_rfl) rfl).imp mn_mg) ((opnd_op 5 95 (by kernel_rfl) rfl).imp mn_mg) (fresh_is _) rfl (fun args w => by go_simp) (fun w u v h h' => eqm_w w u v (gramN (zz fs)) _ h h')
    · exact owe_pick rfl (wants_all rfl) rfl (opnd_op 3 93 (by kernel_rfl) rfl) (fun _ => (opnd_op 6 96 (by kernel_rfl) rfl)) (fun h => nomatch h) rfl
    · exact owe_move rfl (wants_all rfl) (Or.inr rfl) (opnd_op 7 97 (by kernel_rfl) rfl) rfl
  intro B13 a13 W13 S13
  replace S13 : Sta w 98 [] [(6, (Is (.bool true))), (12, ((MN (gramN (zz fs)) (gramE (zz fs))) w.heap.size)), (10, (Is (.int .i64 (errB (reg (zz fs)))))), (11, ((MN (gramN (zz fs)) (gramE (zz fs))) w.heap.size)), (8, (Is (.int .i64 (errB (reg (zz fs)))))), (78, (Is (.bool false))), (58, (Is (.bool false))), (35, (Is (.bool false))), (0, (Mx n es)), (1, (Mx m fs)), (2, (Vx l xs))] B13 a13 W13 := S13
  refine wp_ret ?_
  exact end_one S13 rfl (res_tmp S13 0 6 rfl)

theorem matproducts_walk (w : World) (p0 : Option Addr) (n c0 : Nat) (rs : List Rw) (p1 : Option Addr) (m c1 : Nat) (ts : List Rw) (p2 : Option Addr) (l c2 : Nat) (xs : List El) (h : Ms w p0 n c0 rs) (h' : Ms w p1 m c1 ts) (hx : Ls w p2 l c2 xs) (b0 : c0 ≤ 1048576) (b0' : ∀ (i : Nat) (r : Rw), rs[i]? = some r → r.c ≤ 1048576 ∧ ∀ (j : Nat) (e : El), r.es[j]? = some e → e.c ≤ 1048576) (b1 : c1 ≤ 1048576) (b1' : ∀ (i : Nat) (r : Rw), ts[i]? = some r → r.c ≤ 1048576 ∧ ∀ (j : Nat) (e : El), r.es[j]? = some e → e.c ≤ 1048576) (b2 : c2 ≤ 1048576) (b2' : ∀ (i : Nat) (e : El), xs[i]? = some e → e.c ≤ 1048576) :
    Calls Try.prog 7 #[.slice p0 n c0, .slice p1 m c1, .slice p2 l c2] w fun e w' => e = .returned (.bool true) ∧ Below w.heap.size w w' := by
  have q0 := h.cap
  have q1 := h'.cap
  have q2 := hx.cap
  obtain ⟨x1, x2, x3⟩ := ms_n h b0'
  obtain ⟨y1, y2, y3⟩ := ms_n h' b1'
  refine (matproducts_w w _ _ _ n m l _ _ xs (ms_hs h) (ms_hs h') (ls_hs hx) (by omega) (by omega) (by omega) x1 y1 (fun i es he j e hj => Nat.le_trans (x2 i es he j e hj) (by decide)) (fun i es he j e hj => Nat.le_trans (y2 i es he j e hj) (by decide)) x3 y3 (ls_n' hx b2') (fun i e he => Nat.le_trans (b2' i e he) (by decide))).mono ?_
  rintro e w' ⟨v, rfl, hb, hv⟩
  obtain rfl : v = _ := hv
  exact ⟨rfl, hb⟩
end Go.Proofs.Ytiehipnaklkhjaa
