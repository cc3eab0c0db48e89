/-
  MatOrders' walk: it returns true and writes nothing that was there.
-/
import Derived.Test.YtiehipnaklkhjaaMOrd
import Derived.Test.YtiehipnaklkhjaaMVecWalk
namespace Go.Proofs.Ytiehipnaklkhjaa
open Go Go.RowKit Nt
set_option linter.unusedSimpArgs false
set_option linter.unusedVariables false
set_option maxRecDepth 20000

set_option maxHeartbeats 4000000 in
theorem matorders_w (w : World) (u v : Value) (n m : Nat) (es fs : List El) (h : Hs w (Vx n es) u) (h' : Hs w (Vx m fs) v) (hn : n ≤ 1048576) (hm : m ≤ 1048576) (hE : ∀ (i : Nat) e, es[i]? = some e → e.n ≤ 1048576) (hF : ∀ (i : Nat) e, fs[i]? = some e → e.n ≤ 1048576) (hEc : ∀ (i : Nat) e, es[i]? = some e → e.c ≤ 35184372087808) (hFc : ∀ (i : Nat) e, fs[i]? = some e → e.c ≤ 35184372087808) :
    Calls Try.prog 5 #[u, v] w (Gives (IS (.bool true)) w) := by
  refine calls_sta (sl := [(0, (Vx n es)), (1, (Vx m fs))]) Try.func5 rfl Try.ntmps5 (by simp) (args_cons rfl (h) (args_cons rfl (h') args_nil)) ?_
  intro a0 S0
  refine wp_stmt_seq [.val (Is (.bool false))] [] [.inl 0, .inr 0, .inr 1] follows S0 rfl (by kernel_rfl) ?_ ?_
  · refine ⟨trivial, ?_⟩
    · exact owe_move rfl (wants_all rfl) (Or.inr rfl) (opnd_const _) rfl
  intro B1 a1 W1 S1
  replace S1 : Sta w 30 [] [(4, (Is (.bool false))), (0, (Vx n es)), (1, (Vx m fs))] B1 a1 W1 := S1
  refine wp_stmt_seq [.val (Vx n es),
      .val ((VO n es) w.heap.size),
      .val (Vx m fs),
      .val ((VO m fs) w.heap.size),
      .val (Is (.int .i64 (ordZ (es.map El.z) (fs.map El.z)))),
      .val (Vx n es),
      .val (Vx m fs),
      .val (Is (.int .i64 (ordZ (es.map El.z) (fs.map El.z)))),
      .val (Is (.bool true)),
      .val (Is (.bool true)),
      .val (Vx n es),
      .val ((VO n es) w.heap.size),
      .val (Is (.int .i64 (leadZ (es.map El.z)))),
      .val (Vx n es),
      .val (Is (.int .i64 (leadZ (es.map El.z)))),
      .val (Is (.bool true)),
      .val (Is (.bool true)),
      .val (Is (.bool true)),
      .val (Vx n es),
      .val ((VO n es) w.heap.size),
      .val ((VN n (upZ (es.map El.z))) w.heap.size),
      .val (Vx n es),
      .val ((VN n (upZ (es.map El.z))) w.heap.size),
      .val (Is (.bool true)),
      .val (Is (.bool true)),
      .val (Is (.bool true))] [] [.inl 25] follows S1 rfl (by kernel_rfl) ?_ ?_
  · refine ⟨⟨⟨⟨⟨⟨⟨⟨⟨⟨⟨⟨⟨⟨⟨⟨⟨⟨⟨⟨⟨⟨⟨⟨⟨⟨trivial, ?_⟩, ?_⟩, ?_⟩, ?_⟩, ?_⟩, ?_⟩, ?_⟩, ?_⟩, ?_⟩, ?_⟩, ?_⟩, ?_⟩, ?_⟩, ?_⟩, ?_⟩, ?_⟩, ?_⟩, ?_⟩, ?_⟩, ?_⟩, ?_⟩, ?_⟩, ?_⟩, ?_⟩, ?_⟩, ?_⟩
    · exact owe_move rfl (wants_all rfl) (Or.inl rfl) (opnd_slot 1 0 rfl (by kernel_rfl)) rfl
    · exact owe_callh1 rfl (wants_all rfl) rfl (opnd_op 0 5 (by kernel_rfl) rfl) fresh_vo rfl (fun args w => by go_simp) (fun w u h => owns_w w u _ _ h hn hEc)
    · exact owe_move rfl (wants_all rfl) (Or.inl rfl) (opnd_slot 2 1 rfl (by kernel_rfl)) rfl
    · exact owe_callh1 rfl (wants_all rfl) rfl (opnd_op 2 7 (by kernel_rfl) rfl) fresh_vo rfl (fun args w => by go_simp) (fun w u h => owns_w w u _ _ h hm hFc)
    · exact owe_callh2 rfl (wants_all rfl) rfl ((opnd_op 1 6 (by kernel_rfl) rfl).imp (vo_vv hE)) ((opnd_op 3 8 (by kernel_rfl) rfl).imp (vo_vv hF)) (fresh_is _) rfl (fun args w => by go_simp) (fun w u v h h' => order_w w u v n m 1048576 1048576 _ _ h h' (by omega) (by omega) (by omega) (by omega))
    · exact owe_move rfl (wants_all rfl) (Or.inl rfl) (opnd_slot 1 0 rfl (by kernel_rfl)) rfl
    · exact owe_move rfl (wants_all rfl) (Or.inl rfl) (opnd_slot 2 1 rfl (by kernel_rfl)) rfl
    · exact owe_callh2 rfl (wants_all rfl) rfl ((opnd_op 5 10 (by kernel_rfl) rfl).imp (vx_vv hE)) ((opnd_op 6 11 (by kernel_rfl) rfl).imp (vx_vv hF)) (fresh_is _) rfl (fun args w => by go_simp) (fun w u v h h' => rorder_w w u v n m 1048576 1048576 _ _ h h' (by omega) (by omega) (by omega) (by omega))
    · exact owe_bin rfl (wants_all rfl) rfl (opnd_op 4 9 (by kernel_rfl) rfl) (opnd_op 7 12 (by kernel_rfl) rfl) rfl (fun ρ w h1 h2 => by exact run_eql_int_t ρ _ _ _ w _ _ rfl h1 h2)
    · exact owe_move rfl (wants_all rfl) (Or.inl rfl) (opnd_op 8 13 (by kernel_rfl) rfl) rfl
    · exact owe_move rfl (wants_if 9 14 rfl (by kernel_rfl) rfl) (Or.inl rfl) (opnd_slot 1 0 rfl (by kernel_rfl)) rfl
    · exact owe_callh1 rfl (wants_if 9 14 rfl (by kernel_rfl) rfl) rfl (opnd_op 10 15 (by kernel_rfl) rfl) fresh_vo rfl (fun args w => by go_simp) (fun w u h => owns_w w u _ _ h hn hEc)
    · exact owe_callh1 rfl (wants_if 9 14 rfl (by kernel_rfl) rfl) rfl ((opnd_op 11 16 (by kernel_rfl) rfl).imp (vo_vv hE)) (fresh_is _) rfl (fun args w => by go_simp) (fun w u h => lead_w w u n 1048576 _ h (by omega) (by omega))
    · exact owe_move rfl (wants_if 9 14 rfl (by kernel_rfl) rfl) (Or.inl rfl) (opnd_slot 1 0 rfl (by kernel_rfl)) rfl
    · exact owe_callh1 rfl (wants_if 9 14 rfl (by kernel_rfl) rfl) rfl ((opnd_op 13 18 (by kernel_rfl) rfl).imp (vx_vv hE)) (fresh_is _) rfl (fun args w => by go_simp) (fun w u h => rlead_w w u n 1048576 _ h (by omega) (by omega))
    · exact owe_bin rfl (wants_if 9 14 rfl (by kernel_rfl) rfl) rfl (opnd_op 12 17 (by kernel_rfl) rfl) (opnd_op 14 19 (by kernel_rfl) rfl) rfl (fun ρ w h1 h2 => by exact run_eql_int_t ρ _ _ _ w _ _ rfl h1 h2)
    · exact owe_pick rfl (wants_all rfl) rfl (opnd_op 9 14 (by kernel_rfl) rfl) (fun _ => (opnd_op 15 20 (by kernel_rfl) rfl)) (fun h => nomatch h) rfl
    · exact owe_move rfl (wants_all rfl) (Or.inl rfl) (opnd_op 16 21 (by kernel_rfl) rfl) rfl
    · exact owe_move rfl (wants_if 17 22 rfl (by kernel_rfl) rfl) (Or.inl rfl) (opnd_slot 1 0 rfl (by kernel_rfl)) rfl
    · exact owe_callh1 rfl (wants_if 17 22 rfl (by kernel_rfl) rfl) rfl (opnd_op 18 23 (by kernel_rfl) rfl) fresh_vo rfl (fun args w => by go_simp) (fun w u h => owns_w w u _ _ h hn hEc)
    · exact owe_callh1 rfl (wants_if 17 22 rfl (by kernel_rfl) rfl) rfl ((opnd_op 19 24 (by kernel_rfl) rfl).imp (vo_vv hE)) fresh_vn rfl (fun args w => by go_simp) (fun w u h => up_w w u n 1048576 _ h (by omega) (by omega))
    · exact owe_move rfl (wants_if 17 22 rfl (by kernel_rfl) rfl) (Or.inl rfl) (opnd_slot 1 0 rfl (by kernel_rfl)) rfl
    · exact owe_callh1 rfl (wants_if 17 22 rfl (by kernel_rfl) rfl) rfl ((opnd_op 21 26 (by kernel_rfl) rfl).imp (vx_vv hE)) fresh_vn rfl (fun args w => by go_simp) (fun w u h => rup_w w u n 1048576 _ h (by omega) (by omega))
    · exact owe_callh2 rfl (wants_if 17 22 rfl (by kernel_rfl) rfl) rfl ((opnd_op 20 25 (by kernel_rfl) rfl).imp vn_vs) ((opnd_op 22 27 (by kernel_rfl) rfl).imp vn_vs) (fresh_is _) rfl (fun args w => by go_simp) (fun w u v h h' => eqs_w w u v n _ h h')
    · exact owe_pick rfl (wants_all rfl) rfl (opnd_op 17 22 (by kernel_rfl) rfl) (fun _ => (opnd_op 23 28 (by kernel_rfl) rfl)) (fun h => nomatch h) rfl
    · exact owe_move rfl (wants_all rfl) (Or.inr rfl) (opnd_op 24 29 (by kernel_rfl) rfl) rfl
  intro B2 a2 W2 S2
  replace S2 : Sta w 30 [] [(4, (Is (.bool true)))] B2 a2 W2 := S2
  refine wp_ret ?_
  exact end_one S2 rfl (res_tmp S2 0 4 rfl)

theorem matorders_walk (w : World) (p0 : Option Addr) (n c0 : Nat) (es : List El) (p1 : Option Addr) (m c1 : Nat) (fs : List El) (h : Ls w p0 n c0 es) (h' : Ls w p1 m c1 fs) (b0 : c0 ≤ 1048576) (b0' : ∀ (i : Nat) (e : El), es[i]? = some e → e.c ≤ 1048576) (b1 : c1 ≤ 1048576) (b1' : ∀ (i : Nat) (e : El), fs[i]? = some e → e.c ≤ 1048576) :
    Calls Try.prog 5 #[.slice p0 n c0, .slice p1 m c1] w fun e w' => e = .returned (.bool true) ∧ Below w.heap.size w w' := by
  have q0 := h.cap
  have q1 := h'.cap
  refine (matorders_w w _ _ n m es fs (ls_hs h) (ls_hs h') (by omega) (by omega) (ls_n h b0') (ls_n h' b1') (fun i e he => Nat.le_trans (b0' i e he) (by decide)) (fun i e he => Nat.le_trans (b1' i e he) (by decide))).mono ?_
  rintro e w' ⟨v, rfl, hb, hv⟩
  obtain rfl : v = _ := hv
  exact ⟨rfl, hb⟩
end Go.Proofs.Ytiehipnaklkhjaa
