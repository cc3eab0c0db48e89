/-
  MatVectors' walk: it returns true and writes nothing that was there.
-/
import Derived.Test.YtiehipnaklkhjaaMLaw
namespace Go.Proofs.Ytiehipnaklkhjaa
open Go Go.RowKit Nt
set_option linter.unusedSimpArgs false
set_option linter.unusedVariables false
set_option maxRecDepth 20000


theorem ls_n {w : World} {p : Option Addr} {n c k : Nat} {es : List El} (h : Ls w p n c es) (hC : ∀ (i : Nat) (e : El), es[i]? = some e → e.c ≤ k) : ∀ (i : Nat) (e : El), es[i]? = some e → e.n ≤ k := fun i e he => by
  obtain ⟨b, o, _, _, _, hs⟩ := h.lie i e he
  have := hs.cap
  have := hC i e he
  omega

set_option maxHeartbeats 4000000 in
theorem matvectors_w (w : World) (u v : Value) (n m nk ck : Nat) (es fs : List El) (s : Bool) (pk : Option Addr) (xs : List Nat) (h : Hs w (Vx n es) u) (h' : Hs w (Vx m fs) v) (hk : Sl w pk nk ck xs) (hn : n ≤ 1048576) (hm : m ≤ 1048576) (hE : ∀ (i : Nat) e, es[i]? = some e → e.n ≤ 1048576) (hF : ∀ (i : Nat) e, fs[i]? = some e → e.n ≤ 1048576) (hEc : ∀ (i : Nat) e, es[i]? = some e → e.c ≤ 35184372087808) (hFc : ∀ (i : Nat) e, fs[i]? = some e → e.c ≤ 35184372087808) (hKn : nk ≤ 1048576) (hKc : ck ≤ 35184372087808) :
    Calls Try.prog 4 #[u, v, .agg #[.bool s, .slice pk nk ck]] w (Gives (IS (.bool true)) w) := by
  refine calls_sta (sl := [(0, (Vx n es)), (1, (Vx m fs)), (2, (Zx s pk nk ck xs))]) Try.func4 rfl Try.ntmps4 (by simp) (args_cons rfl (h) (args_cons rfl (h') (args_cons rfl (zx_has hk) args_nil))) ?_
  intro a0 S0
  refine wp_stmt_seq [.new (.box 39 (Zx s pk nk ck xs)),
      .val (Is (.bool false))] [.inl 0] [.inl 1, .inr 0, .inr 1] follows S0 rfl (by kernel_rfl) ?_ ?_
  · refine ⟨⟨trivial, ?_⟩, ?_⟩
    · exact owe_box rfl (wants_all rfl) rfl (opnd_slot 2 2 rfl (by kernel_rfl)) rfl (fun ρ w h => box_int shp_zx ρ _ _ w h)
    · exact owe_move rfl (wants_all rfl) (Or.inr rfl) (opnd_const _) rfl
  intro B1 a1 W1 S1
  replace S1 : Sta w 110 [(5, (.box 39 (Zx s pk nk ck xs)))] [(6, (Is (.bool false))), (0, (Vx n es)), (1, (Vx m fs))] B1 a1 W1 := S1
  refine wp_stmt_seq [.val (Vx n es),
      .val ((VO n es) w.heap.size),
      .val (Vx m fs),
      .val ((VO m fs) w.heap.size),
      .val ((VO n es) w.heap.size),
      .val ((VO m fs) w.heap.size)] [.inr 0] [.inl 4, .inl 5, .inr 0, .inr 1, .inr 2] follows S1 rfl (by kernel_rfl) ?_ ?_
  · refine ⟨⟨⟨⟨⟨⟨trivial, ?_⟩, ?_⟩, ?_⟩, ?_⟩, ?_⟩, ?_⟩
    · exact owe_move rfl (wants_all rfl) (Or.inl rfl) (opnd_slot 1 0 rfl (by kernel_rfl)) rfl
    · exact owe_callh1 rfl (wants_all rfl) rfl (opnd_op 0 15 (by kernel_rfl) rfl) fresh_vo rfl (fun args w => by go_simp) (fun w u h => owns_w w u _ _ h hn hEc)
    · exact owe_move rfl (wants_all rfl) (Or.inl rfl) (opnd_slot 2 1 rfl (by kernel_rfl)) rfl
    · exact owe_callh1 rfl (wants_all rfl) rfl (opnd_op 2 17 (by kernel_rfl) rfl) fresh_vo rfl (fun args w => by go_simp) (fun w u h => owns_w w u _ _ h hm hFc)
    · exact owe_move rfl (wants_all rfl) (Or.inr rfl) (opnd_op 1 16 (by kernel_rfl) rfl) rfl
    · exact owe_move rfl (wants_all rfl) (Or.inr rfl) (opnd_op 3 18 (by kernel_rfl) rfl) rfl
  intro B2 a2 W2 S2
  replace S2 : Sta w 110 [(5, (.box 39 (Zx s pk nk ck xs)))] [(7, ((VO n es) w.heap.size)), (8, ((VO m fs) w.heap.size)), (6, (Is (.bool false))), (0, (Vx n es)), (1, (Vx m fs))] B2 a2 W2 := S2
  refine wp_stmt_seq [.val ((VO n es) w.heap.size),
      .val ((VO m fs) w.heap.size),
      .val ((TWO (ZN (dotE n m (es.map El.z) (fs.map El.z))) (IS (.int .i64 (errE n m)))) w.heap.size),
      .val ((TWO (ZN (dotE n m (es.map El.z) (fs.map El.z))) (IS (.int .i64 (errE n m)))) w.heap.size),
      .val ((ZN (dotE n m (es.map El.z) (fs.map El.z))) w.heap.size),
      .val (Is (.int .i64 (errE n m))),
      .new (.box 39 (Is (.agg #[.bool false, .slice none 0 0]))),
      .put (.inr 6) (.box 39 ((ZN (dotE n m (es.map El.z) (fs.map El.z))) w.heap.size)),
      .val (Is (.int .i64 (errE n m)))] [.inr 0, .inl 6] [.inl 8, .inr 0, .inr 1, .inr 2, .inr 3, .inr 4] follows S2 rfl (by kernel_rfl) ?_ ?_
  · refine ⟨⟨⟨⟨⟨⟨⟨⟨⟨trivial, ?_⟩, ?_⟩, ?_⟩, ?_⟩, ?_⟩, ?_⟩, ?_⟩, ?_⟩, ?_⟩
    · exact owe_move rfl (wants_all rfl) (Or.inl rfl) (opnd_slot 0 7 rfl (by kernel_rfl)) rfl
    · exact owe_move rfl (wants_all rfl) (Or.inl rfl) (opnd_slot 1 8 rfl (by kernel_rfl)) rfl
    · exact owe_callh2 rfl (wants_all rfl) rfl ((opnd_op 0 20 (by kernel_rfl) rfl).imp (vo_vv hE)) ((opnd_op 1 21 (by kernel_rfl) rfl).imp (vo_vv hF)) (fresh_two (fresh_zn _) (fresh_is _)) rfl (fun args w => by go_simp) (h_dot (by omega) (by omega))
    · exact owe_move rfl (wants_all rfl) (Or.inl rfl) (opnd_op 2 22 (by kernel_rfl) rfl) rfl
    · exact owe_ext2 rfl (wants_all rfl) rfl (opnd_op 3 19 (by kernel_rfl) rfl) (Or.inl ⟨rfl, rfl⟩) rfl
    · exact owe_ext2 rfl (wants_all rfl) rfl (opnd_op 3 19 (by kernel_rfl) rfl) (Or.inr ⟨rfl, rfl⟩) rfl
    · exact owe_new rfl (wants_all rfl) rfl rfl (fun ρ w => alloc_int ρ _ w)
    · exact owe_put 6 rfl (wants_all rfl) rfl (by kernel_rfl) rfl (opnd_op 4 23 (by kernel_rfl) rfl) (stores_of strct_int shp_z0 shp_zn) rfl
    · exact owe_move rfl (wants_all rfl) (Or.inr rfl) (opnd_op 5 24 (by kernel_rfl) rfl) rfl
  intro B3 a3 W3 S3
  replace S3 : Sta w 110 [(5, (.box 39 (Zx s pk nk ck xs))), (9, (.box 39 ((ZN (dotE n m (es.map El.z) (fs.map El.z))) w.heap.size)))] [(10, (Is (.int .i64 (errE n m)))), (7, ((VO n es) w.heap.size)), (8, ((VO m fs) w.heap.size)), (6, (Is (.bool false))), (0, (Vx n es)), (1, (Vx m fs))] B3 a3 W3 := S3
  refine wp_stmt_seq [.val (Vx n es),
      .val (Vx m fs),
      .val ((TWO (ZN (dotE n m (es.map El.z) (fs.map El.z))) (IS (.int .i64 (errE n m)))) w.heap.size),
      .val ((TWO (ZN (dotE n m (es.map El.z) (fs.map El.z))) (IS (.int .i64 (errE n m)))) w.heap.size),
      .val ((ZN (dotE n m (es.map El.z) (fs.map El.z))) w.heap.size),
      .val (Is (.int .i64 (errE n m))),
      .new (.box 39 (Is (.agg #[.bool false, .slice none 0 0]))),
      .put (.inr 6) (.box 39 ((ZN (dotE n m (es.map El.z) (fs.map El.z))) w.heap.size)),
      .val (Is (.int .i64 (errE n m)))] [.inr 0, .inr 1, .inl 6] [.inl 8, .inr 0, .inr 1, .inr 2, .inr 3, .inr 4, .inr 5] follows S3 rfl (by kernel_rfl) ?_ ?_
  · refine ⟨⟨⟨⟨⟨⟨⟨⟨⟨trivial, ?_⟩, ?_⟩, ?_⟩, ?_⟩, ?_⟩, ?_⟩, ?_⟩, ?_⟩, ?_⟩
    · exact owe_move rfl (wants_all rfl) (Or.inl rfl) (opnd_slot 4 0 rfl (by kernel_rfl)) rfl
    · exact owe_move rfl (wants_all rfl) (Or.inl rfl) (opnd_slot 5 1 rfl (by kernel_rfl)) rfl
    · exact owe_callh2 rfl (wants_all rfl) rfl ((opnd_op 0 26 (by kernel_rfl) rfl).imp (vx_vv hE)) ((opnd_op 1 27 (by kernel_rfl) rfl).imp (vx_vv hF)) (fresh_two (fresh_zn _) (fresh_is _)) rfl (fun args w => by go_simp) (h_rdot (by omega) (by omega))
    · exact owe_move rfl (wants_all rfl) (Or.inl rfl) (opnd_op 2 28 (by kernel_rfl) rfl) rfl
    · exact owe_ext2 rfl (wants_all rfl) rfl (opnd_op 3 25 (by kernel_rfl) rfl) (Or.inl ⟨rfl, rfl⟩) rfl
    · exact owe_ext2 rfl (wants_all rfl) rfl (opnd_op 3 25 (by kernel_rfl) rfl) (Or.inr ⟨rfl, rfl⟩) rfl
    · exact owe_new rfl (wants_all rfl) rfl rfl (fun ρ w => alloc_int ρ _ w)
    · exact owe_put 6 rfl (wants_all rfl) rfl (by kernel_rfl) rfl (opnd_op 4 29 (by kernel_rfl) rfl) (stores_of strct_int shp_z0 shp_zn) rfl
    · exact owe_move rfl (wants_all rfl) (Or.inr rfl) (opnd_op 5 30 (by kernel_rfl) rfl) rfl
  intro B4 a4 W4 S4
  replace S4 : Sta w 110 [(5, (.box 39 (Zx s pk nk ck xs))), (9, (.box 39 ((ZN (dotE n m (es.map El.z) (fs.map El.z))) w.heap.size))), (11, (.box 39 ((ZN (dotE n m (es.map El.z) (fs.map El.z))) w.heap.size)))] [(12, (Is (.int .i64 (errE n m)))), (10, (Is (.int .i64 (errE n m)))), (7, ((VO n es) w.heap.size)), (8, ((VO m fs) w.heap.size)), (6, (Is (.bool false))), (0, (Vx n es)), (1, (Vx m fs))] B4 a4 W4 := S4
  refine wp_seq ?_
  refine wp_stmt_seq [.val (Is (.int .i64 (errE n m))),
      .val (Is (.int .i64 (errE n m))),
      .val (Is (.bool false)),
      .val (Is (.bool false)),
      .val ((ZN (dotE n m (es.map El.z) (fs.map El.z))) w.heap.size),
      .val ((ZN (dotE n m (es.map El.z) (fs.map El.z))) w.heap.size),
      .val (Is (.bool true)),
      .val (Is (.bool false)),
      .val (Is (.bool false)),
      .val (Is (.bool false)),
      .val ((VO n es) w.heap.size),
      .val ((ZN (sumZ (List.zipWith (· * ·) (es.map El.z) (es.map El.z)))) w.heap.size),
      .val (Vx n es),
      .val ((ZN (sumZ (List.zipWith (· * ·) (es.map El.z) (es.map El.z)))) w.heap.size),
      .val (Is (.bool true)),
      .val (Is (.bool false)),
      .val (Is (.bool false)),
      .val (Is (.bool false)),
      .val (Zx s pk nk ck xs),
      .val ((ZO s nk xs) w.heap.size),
      .val ((VO n es) w.heap.size),
      .val ((VN n ((es.map El.z).map (fun a => (sg s (val xs)) * a))) w.heap.size),
      .val (Zx s pk nk ck xs),
      .val (Vx n es),
      .val ((VN n ((es.map El.z).map (fun a => (sg s (val xs)) * a))) w.heap.size),
      .val (Is (.bool true)),
      .val (Is (.bool false)),
      .val (Is (.bool false))] [.inr 0, .inr 1, .inr 2] [.inl 27, .inr 0, .inr 1, .inr 2, .inr 3, .inr 4, .inr 5, .inr 6] follows S4 rfl (by kernel_rfl) ?_ ?_
  · refine ⟨⟨⟨⟨⟨⟨⟨⟨⟨⟨⟨⟨⟨⟨⟨⟨⟨⟨⟨⟨⟨⟨⟨⟨⟨⟨⟨⟨trivial, ?_⟩, ?_⟩, ?_⟩, ?_⟩, ?_⟩, ?_⟩, ?_⟩, ?_⟩, ?_⟩, ?_⟩, ?_⟩, ?_⟩, ?_⟩, ?_⟩, ?_⟩, ?_⟩, ?_⟩, ?_⟩, ?_⟩, ?_⟩, ?_⟩, ?_⟩, ?_⟩, ?_⟩, ?_⟩, ?_⟩, ?_⟩, ?_⟩
    · exact owe_move rfl (wants_all rfl) (Or.inl rfl) (opnd_slot 1 10 rfl (by kernel_rfl)) rfl
    · exact owe_move rfl (wants_all rfl) (Or.inl rfl) (opnd_slot 0 12 rfl (by kernel_rfl)) rfl
    · exact owe_bin rfl (wants_all rfl) rfl (opnd_op 0 31 (by kernel_rfl) rfl) (opnd_op 1 32 (by kernel_rfl) rfl) rfl (fun ρ w h1 h2 => by exact run_neq_int_f ρ _ _ _ w _ _ rfl h1 h2)
    · exact owe_move rfl (wants_all rfl) (Or.inl rfl) (opnd_op 2 33 (by kernel_rfl) rfl) rfl
    · exact owe_load rfl (wants_if 3 34 rfl (by kernel_rfl) rfl) rfl (k := 1) rfl (by kernel_rfl) (loads_of strct_int shp_zn) rfl
    · exact owe_load rfl (wants_if 3 34 rfl (by kernel_rfl) rfl) rfl (k := 2) rfl (by kernel_rfl) (loads_of strct_int shp_zn) rfl
    · exact owe_call2 rfl (wants_if 3 34 rfl (by kernel_rfl) rfl) rfl (opnd_op 4 35 (by kernel_rfl) rfl) (opnd_op 5 36 (by kernel_rfl) rfl) (fresh_is _) rfl (fun args w => by go_simp) g_eq
    · exact owe_un (x := .tmp 37) rfl (wants_if 3 34 rfl (by kernel_rfl) rfl) rfl (opnd_op 6 37 (by kernel_rfl) rfl) rfl (fun ρ w h1 => run_not ρ _ _ w _ h1)
    · exact owe_pick rfl (wants_all rfl) rfl (opnd_op 3 34 (by kernel_rfl) rfl) (fun h => nomatch h) (fun _ => (opnd_op 7 38 (by kernel_rfl) rfl)) rfl
    · exact owe_move rfl (wants_all rfl) (Or.inl rfl) (opnd_op 8 39 (by kernel_rfl) rfl) rfl
    · exact owe_move rfl (wants_if 9 40 rfl (by kernel_rfl) rfl) (Or.inl rfl) (opnd_slot 2 7 rfl (by kernel_rfl)) rfl
    · exact owe_callh1 rfl (wants_if 9 40 rfl (by kernel_rfl) rfl) rfl ((opnd_op 10 41 (by kernel_rfl) rfl).imp (vo_vv hE)) (fresh_zn _) rfl (fun args w => by go_simp) (fun w u h => norm_w w u n 1048576 _ h (by omega) (by omega))
    · exact owe_move rfl (wants_if 9 40 rfl (by kernel_rfl) rfl) (Or.inl rfl) (opnd_slot 5 0 rfl (by kernel_rfl)) rfl
    · exact owe_callh1 rfl (wants_if 9 40 rfl (by kernel_rfl) rfl) rfl ((opnd_op 12 43 (by kernel_rfl) rfl).imp (vx_vv hE)) (fresh_zn _) rfl (fun args w => by go_simp) (fun w u h => rnorm_w w u n 1048576 _ h (by omega) (by omega))
    · exact owe_call2 rfl (wants_if 9 40 rfl (by kernel_rfl) rfl) rfl (opnd_op 11 42 (by kernel_rfl) rfl) (opnd_op 13 44 (by kernel_rfl) rfl) (fresh_is _) rfl (fun args w => by go_simp) g_eq
    · exact owe_un (x := .tmp 45) rfl (wants_if 9 40 rfl (by kernel_rfl) rfl) rfl (opnd_op 14 45 (by kernel_rfl) rfl) rfl (fun ρ w h1 => run_not ρ _ _ w _ h1)
    · exact owe_pick rfl (wants_all rfl) rfl (opnd_op 9 40 (by kernel_rfl) rfl) (fun h => nomatch h) (fun _ => (opnd_op 15 46 (by kernel_rfl) rfl)) rfl
    · exact owe_move rfl (wants_all rfl) (Or.inl rfl) (opnd_op 16 47 (by kernel_rfl) rfl) rfl
    · exact owe_load rfl (wants_if 17 48 rfl (by kernel_rfl) rfl) rfl (k := 0) rfl (by kernel_rfl) (loads_of strct_int shp_zx) rfl
    · exact owe_call1 rfl (wants_if 17 48 rfl (by kernel_rfl) rfl) rfl (opnd_op 18 49 (by kernel_rfl) rfl) (fresh_zo _ _ _) rfl (fun args w => by go_simp) (g_own hKc)
    · exact owe_move rfl (wants_if 17 48 rfl (by kernel_rfl) rfl) (Or.inl rfl) (opnd_slot 2 7 rfl (by kernel_rfl)) rfl
    · exact owe_callh2 rfl (wants_if 17 48 rfl (by kernel_rfl) rfl) rfl ((opnd_op 19 50 (by kernel_rfl) rfl).imp (zo_zv rfl (Nat.le_refl _))) ((opnd_op 20 51 (by kernel_rfl) rfl).imp (vo_vv hE)) fresh_vn rfl (fun args w => by go_simp) (fun w u v h h' => times_w w u v n 1048576 nk _ _ h h' (by omega) (by omega))
    · exact owe_load rfl (wants_if 17 48 rfl (by kernel_rfl) rfl) rfl (k := 0) rfl (by kernel_rfl) (loads_of strct_int shp_zx) rfl
    · exact owe_move rfl (wants_if 17 48 rfl (by kernel_rfl) rfl) (Or.inl rfl) (opnd_slot 5 0 rfl (by kernel_rfl)) rfl
    · exact owe_callh2 rfl (wants_if 17 48 rfl (by kernel_rfl) rfl) rfl ((opnd_op 22 53 (by kernel_rfl) rfl).imp (zx_zv' rfl (Nat.le_refl _))) ((opnd_op 23 54 (by kernel_rfl) rfl).imp (vx_vv hE)) fresh_vn rfl (fun args w => by go_simp) (fun w u v h h' => rtimes_w w u v n 1048576 nk _ _ h h' (by omega) (by omega))
    · exact owe_callh2 rfl (wants_if 17 48 rfl (by kernel_rfl) rfl) rfl ((opnd_op 21 52 (by kernel_rfl) rfl).imp vn_vs) ((opnd_op 24 55 (by kernel_rfl) rfl).imp vn_vs) (fresh_is _) rfl (fun args w => by go_simp) (fun w u v h h' => eqs_w w u v n _ h h')
    · exact owe_un (x := .tmp 56) rfl (wants_if 17 48 rfl (by kernel_rfl) rfl) rfl (opnd_op 25 56 (by kernel_rfl) rfl) rfl (fun ρ w h1 => run_not ρ _ _ w _ h1)
    · exact owe_pick rfl (wants_all rfl) rfl (opnd_op 17 48 (by kernel_rfl) rfl) (fun h => nomatch h) (fun _ => (opnd_op 26 57 (by kernel_rfl) rfl)) rfl
  intro B5 a5 W5 S5
  replace S5 : Sta w 110 [(5, (.box 39 (Zx s pk nk ck xs))), (9, (.box 39 ((ZN (dotE n m (es.map El.z) (fs.map El.z))) w.heap.size))), (11, (.box 39 ((ZN (dotE n m (es.map El.z) (fs.map El.z))) w.heap.size)))] [(58, (Is (.bool false))), (12, (Is (.int .i64 (errE n m)))), (10, (Is (.int .i64 (errE n m)))), (7, ((VO n es) w.heap.size)), (8, ((VO m fs) w.heap.size)), (6, (Is (.bool false))), (0, (Vx n es)), (1, (Vx m fs))] B5 a5 W5 := S5
  refine wp_cond_false (S5.bool 0 58 rfl) ?_
  refine wp_skip ?_
  refine thenN ?_
  refine wp_stmt_seq [.val ((VO n es) w.heap.size),
      .val ((VO m fs) w.heap.size),
      .val ((TWO (VN (lenE n m) (zipE (· + ·) n m (es.map El.z) (fs.map El.z))) (IS (.int .i64 (errE n m)))) w.heap.size),
      .val ((TWO (VN (lenE n m) (zipE (· + ·) n m (es.map El.z) (fs.map El.z))) (IS (.int .i64 (errE n m)))) w.heap.size),
      .val ((VN (lenE n m) (zipE (· + ·) n m (es.map El.z) (fs.map El.z))) w.heap.size),
      .val (Is (.int .i64 (errE n m))),
      .val ((VN (lenE n m) (zipE (· + ·) n m (es.map El.z) (fs.map El.z))) w.heap.size),
      .val (Is (.int .i64 (errE n m)))] [.inr 0, .inr 1, .inr 2] [.inl 6, .inl 7, .inr 0, .inr 1, .inr 3, .inr 4, .inr 5, .inr 6, .inr 7] follows S5 rfl (by kernel_rfl) ?_ ?_
  · refine ⟨⟨⟨⟨⟨⟨⟨⟨trivial, ?_⟩, ?_⟩, ?_⟩, ?_⟩, ?_⟩, ?_⟩, ?_⟩, ?_⟩
    · exact owe_move rfl (wants_all rfl) (Or.inl rfl) (opnd_slot 3 7 rfl (by kernel_rfl)) rfl
    · exact owe_move rfl (wants_all rfl) (Or.inl rfl) (opnd_slot 4 8 rfl (by kernel_rfl)) rfl
    · exact owe_callh2 rfl (wants_all rfl) rfl ((opnd_op 0 60 (by kernel_rfl) rfl).imp (vo_vv hE)) ((opnd_op 1 61 (by kernel_rfl) rfl).imp (vo_vv hF)) (fresh_two fresh_vn (fresh_is _)) rfl (fun args w => by go_simp) (fun w u v h h' => plus_w w u v n m 1048576 1048576 _ _ h h' (by omega) (by omega) (by omega))
    · exact owe_move rfl (wants_all rfl) (Or.inl rfl) (opnd_op 2 62 (by kernel_rfl) rfl) rfl
    · exact owe_ext2 rfl (wants_all rfl) rfl (opnd_op 3 59 (by kernel_rfl) rfl) (Or.inl ⟨rfl, rfl⟩) rfl
    · exact owe_ext2 rfl (wants_all rfl) rfl (opnd_op 3 59 (by kernel_rfl) rfl) (Or.inr ⟨rfl, rfl⟩) rfl
    · exact owe_move rfl (wants_all rfl) (Or.inr rfl) (opnd_op 4 63 (by kernel_rfl) rfl) rfl
    · exact owe_move rfl (wants_all rfl) (Or.inr rfl) (opnd_op 5 64 (by kernel_rfl) rfl) rfl
  intro B6 a6 W6 S6
  replace S6 : Sta w 110 [(5, (.box 39 (Zx s pk nk ck xs))), (9, (.box 39 ((ZN (dotE n m (es.map El.z) (fs.map El.z))) w.heap.size))), (11, (.box 39 ((ZN (dotE n m (es.map El.z) (fs.map El.z))) w.heap.size)))] [(13, ((VN (lenE n m) (zipE (· + ·) n m (es.map El.z) (fs.map El.z))) w.heap.size)), (10, (Is (.int .i64 (errE n m)))), (58, (Is (.bool false))), (12, (Is (.int .i64 (errE n m)))), (7, ((VO n es) w.heap.size)), (8, ((VO m fs) w.heap.size)), (6, (Is (.bool false))), (0, (Vx n es)), (1, (Vx m fs))] B6 a6 W6 := S6
  refine wp_stmt_seq [.val (Vx n es),
      .val (Vx m fs),
      .val ((TWO (VN (lenE n m) (zipE (· + ·) n m (es.map El.z) (fs.map El.z))) (IS (.int .i64 (errE n m)))) w.heap.size),
      .val ((TWO (VN (lenE n m) (zipE (· + ·) n m (es.map El.z) (fs.map El.z))) (IS (.int .i64 (errE n m)))) w.heap.size),
      .val ((VN (lenE n m) (zipE (· + ·) n m (es.map El.z) (fs.map El.z))) w.heap.size),
      .val (Is (.int .i64 (errE n m))),
      .val ((VN (lenE n m) (zipE (· + ·) n m (es.map El.z) (fs.map El.z))) w.heap.size),
      .val (Is (.int .i64 (errE n m)))] [.inr 0, .inr 1, .inr 2] [.inl 6, .inl 7, .inr 0, .inr 1, .inr 2, .inr 4, .inr 5, .inr 6, .inr 7, .inr 8] follows S6 rfl (by kernel_rfl) ?_ ?_
  · refine ⟨⟨⟨⟨⟨⟨⟨⟨trivial, ?_⟩, ?_⟩, ?_⟩, ?_⟩, ?_⟩, ?_⟩, ?_⟩, ?_⟩
    · exact owe_move rfl (wants_all rfl) (Or.inl rfl) (opnd_slot 7 0 rfl (by kernel_rfl)) rfl
    · exact owe_move rfl (wants_all rfl) (Or.inl rfl) (opnd_slot 8 1 rfl (by kernel_rfl)) rfl
    · exact owe_callh2 rfl (wants_all rfl) rfl ((opnd_op 0 66 (by kernel_rfl) rfl).imp (vx_vv hE)) ((opnd_op 1 67 (by kernel_rfl) rfl).imp (vx_vv hF)) (fresh_two fresh_vn (fresh_is _)) rfl (fun args w => by go_simp) (h_rplus (by omega) (by omega) (by omega))
    · exact owe_move rfl (wants_all rfl) (Or.inl rfl) (opnd_op 2 68 (by kernel_rfl) rfl) rfl
    · exact owe_ext2 rfl (wants_all rfl) rfl (opnd_op 3 65 (by kernel_rfl) rfl) (Or.inl ⟨rfl, rfl⟩) rfl
    · exact owe_ext2 rfl (wants_all rfl) rfl (opnd_op 3 65 (by kernel_rfl) rfl) (Or.inr ⟨rfl, rfl⟩) rfl
    · exact owe_move rfl (wants_all rfl) (Or.inr rfl) (opnd_op 4 69 (by kernel_rfl) rfl) rfl
    · exact owe_move rfl (wants_all rfl) (Or.inr rfl) (opnd_op 5 70 (by kernel_rfl) rfl) rfl
  intro B7 a7 W7 S7
  replace S7 : Sta w 110 [(5, (.box 39 (Zx s pk nk ck xs))), (9, (.box 39 ((ZN (dotE n m (es.map El.z) (fs.map El.z))) w.heap.size))), (11, (.box 39 ((ZN (dotE n m (es.map El.z) (fs.map El.z))) w.heap.size)))] [(14, ((VN (lenE n m) (zipE (· + ·) n m (es.map El.z) (fs.map El.z))) w.heap.size)), (12, (Is (.int .i64 (errE n m)))), (13, ((VN (lenE n m) (zipE (· + ·) n m (es.map El.z) (fs.map El.z))) w.heap.size)), (10, (Is (.int .i64 (errE n m)))), (58, (Is (.bool false))), (7, ((VO n es) w.heap.size)), (8, ((VO m fs) w.heap.size)), (6, (Is (.bool false))), (0, (Vx n es)), (1, (Vx m fs))] B7 a7 W7 := S7
  refine wp_seq ?_
  refine wp_stmt_seq [.val (Is (.int .i64 (errE n m))),
      .val (Is (.int .i64 (errE n m))),
      .val (Is (.bool false)),
      .val (Is (.bool false)),
      .val ((VN (lenE n m) (zipE (· + ·) n m (es.map El.z) (fs.map El.z))) w.heap.size),
      .val ((VN (lenE n m) (zipE (· + ·) n m (es.map El.z) (fs.map El.z))) w.heap.size),
      .val (Is (.bool true)),
      .val (Is (.bool false)),
      .val (Is (.bool false))] [.inr 0, .inr 1, .inr 2] [.inl 8, .inr 0, .inr 1, .inr 2, .inr 3, .inr 4, .inr 5, .inr 6, .inr 7, .inr 8, .inr 9] follows S7 rfl (by kernel_rfl) ?_ ?_
  · refine ⟨⟨⟨⟨⟨⟨⟨⟨⟨trivial, ?_⟩, ?_⟩, ?_⟩, ?_⟩, ?_⟩, ?_⟩, ?_⟩, ?_⟩, ?_⟩
    · exact owe_move rfl (wants_all rfl) (Or.inl rfl) (opnd_slot 3 10 rfl (by kernel_rfl)) rfl
    · exact owe_move rfl (wants_all rfl) (Or.inl rfl) (opnd_slot 1 12 rfl (by kernel_rfl)) rfl
    · exact owe_bin rfl (wants_all rfl) rfl (opnd_op 0 71 (by kernel_rfl) rfl) (opnd_op 1 72 (by kernel_rfl) rfl) rfl (fun ρ w h1 h2 => by exact run_neq_int_f ρ _ _ _ w _ _ rfl h1 h2)
    · exact owe_move rfl (wants_all rfl) (Or.inl rfl) (opnd_op 2 73 (by kernel_rfl) rfl) rfl
    · exact owe_move rfl (wants_if 3 74 rfl (by kernel_rfl) rfl) (Or.inl rfl) (opnd_slot 2 13 rfl (by kernel_rfl)) rfl
    · exact owe_move rfl (wants_if 3 74 rfl (by kernel_rfl) rfl) (Or.inl rfl) (opnd_slot 0 14 rfl (by kernel_rfl)) rfl
    · exact owe_callh2 rfl (wants_if 3 74 rfl (by kernel_rfl) rfl) rfl ((opnd_op 4 75 (by kernel_rfl) rfl).imp vn_vs) ((opnd_op 5 76 (by kernel_rfl) rfl).imp vn_vs) (fresh_is _) rfl (fun args w => by go_simp) (fun w u v h h' => eqs_w w u v (lenE n m) _ h h')
    · exact owe_un (x := .tmp 77) rfl (wants_if 3 74 rfl (by kernel_rfl) rfl) rfl (opnd_op 6 77 (by kernel_rfl) rfl) rfl (fun ρ w h1 => run_not ρ _ _ w _ h1)
    · exact owe_pick rfl (wants_all rfl) rfl (opnd_op 3 74 (by kernel_rfl) rfl) (fun h => nomatch h) (fun _ => (opnd_op 7 78 (by kernel_rfl) rfl)) rfl
  intro B8 a8 W8 S8
  replace S8 : Sta w 110 [(5, (.box 39 (Zx s pk nk ck xs))), (9, (.box 39 ((ZN (dotE n m (es.map El.z) (fs.map El.z))) w.heap.size))), (11, (.box 39 ((ZN (dotE n m (es.map El.z) (fs.map El.z))) w.heap.size)))] [(79, (Is (.bool false))), (14, ((VN (lenE n m) (zipE (· + ·) n m (es.map El.z) (fs.map El.z))) w.heap.size)), (12, (Is (.int .i64 (errE n m)))), (13, ((VN (lenE n m) (zipE (· + ·) n m (es.map El.z) (fs.map El.z))) w.heap.size)), (10, (Is (.int .i64 (errE n m)))), (58, (Is (.bool false))), (7, ((VO n es) w.heap.size)), (8, ((VO m fs) w.heap.size)), (6, (Is (.bool false))), (0, (Vx n es)), (1, (Vx m fs))] B8 a8 W8 := S8
  refine wp_cond_false (S8.bool 0 79 rfl) ?_
  refine wp_skip ?_
  refine thenN ?_
  refine wp_stmt_seq [.val ((VO n es) w.heap.size),
      .val ((VO m fs) w.heap.size),
      .val ((TWO (VN (lenE n m) (zipE (· - ·) n m (es.map El.z) (fs.map El.z))) (IS (.int .i64 (errE n m)))) w.heap.size),
      .val ((TWO (VN (lenE n m) (zipE (· - ·) n m (es.map El.z) (fs.map El.z))) (IS (.int .i64 (errE n m)))) w.heap.size),
      .val ((VN (lenE n m) (zipE (· - ·) n m (es.map El.z) (fs.map El.z))) w.heap.size),
      .val (Is (.int .i64 (errE n m))),
      .val ((VN (lenE n m) (zipE (· - ·) n m (es.map El.z) (fs.map El.z))) w.heap.size),
      .val (Is (.int .i64 (errE n m)))] [.inr 0, .inr 1, .inr 2] [.inl 6, .inl 7, .inr 0, .inr 1, .inr 2, .inr 5, .inr 6, .inr 7, .inr 8, .inr 9, .inr 10] follows S8 rfl (by kernel_rfl) ?_ ?_
  · refine ⟨⟨⟨⟨⟨⟨⟨⟨trivial, ?_⟩, ?_⟩, ?_⟩, ?_⟩, ?_⟩, ?_⟩, ?_⟩, ?_⟩
    · exact owe_move rfl (wants_all rfl) (Or.inl rfl) (opnd_slot 6 7 rfl (by kernel_rfl)) rfl
    · exact owe_move rfl (wants_all rfl) (Or.inl rfl) (opnd_slot 7 8 rfl (by kernel_rfl)) rfl
    · exact owe_callh2 rfl (wants_all rfl) rfl ((opnd_op 0 81 (by kernel_rfl) rfl).imp (vo_vv hE)) ((opnd_op 1 82 (by kernel_rfl) rfl).imp (vo_vv hF)) (fresh_two fresh_vn (fresh_is _)) rfl (fun args w => by go_simp) (fun w u v h h' => minus_w w u v n m 1048576 1048576 _ _ h h' (by omega) (by omega) (by omega))
    · exact owe_move rfl (wants_all rfl) (Or.inl rfl) (opnd_op 2 83 (by kernel_rfl) rfl) rfl
    · exact owe_ext2 rfl (wants_all rfl) rfl (opnd_op 3 80 (by kernel_rfl) rfl) (Or.inl ⟨rfl, rfl⟩) rfl
    · exact owe_ext2 rfl (wants_all rfl) rfl (opnd_op 3 80 (by kernel_rfl) rfl) (Or.inr ⟨rfl, rfl⟩) rfl
    · exact owe_move rfl (wants_all rfl) (Or.inr rfl) (opnd_op 4 84 (by kernel_rfl) rfl) rfl
    · exact owe_move rfl (wants_all rfl) (Or.inr rfl) (opnd_op 5 85 (by kernel_rfl) rfl) rfl
  intro B9 a9 W9 S9
  replace S9 : Sta w 110 [(5, (.box 39 (Zx s pk nk ck xs))), (9, (.box 39 ((ZN (dotE n m (es.map El.z) (fs.map El.z))) w.heap.size))), (11, (.box 39 ((ZN (dotE n m (es.map El.z) (fs.map El.z))) w.heap.size)))] [(13, ((VN (lenE n m) (zipE (· - ·) n m (es.map El.z) (fs.map El.z))) w.heap.size)), (10, (Is (.int .i64 (errE n m)))), (79, (Is (.bool false))), (14, ((VN (lenE n m) (zipE (· + ·) n m (es.map El.z) (fs.map El.z))) w.heap.size)), (12, (Is (.int .i64 (errE n m)))), (58, (Is (.bool false))), (7, ((VO n es) w.heap.size)), (8, ((VO m fs) w.heap.size)), (6, (Is (.bool false))), (0, (Vx n es)), (1, (Vx m fs))] B9 a9 W9 := S9
  refine wp_stmt_seq [.val (Vx n es),
      .val (Vx m fs),
      .val ((TWO (VN (lenE n m) (zipE (· - ·) n m (es.map El.z) (fs.map El.z))) (IS (.int .i64 (errE n m)))) w.heap.size),
      .val ((TWO (VN (lenE n m) (zipE (· - ·) n m (es.map El.z) (fs.map El.z))) (IS (.int .i64 (errE n m)))) w.heap.size),
      .val ((VN (lenE n m) (zipE (· - ·) n m (es.map El.z) (fs.map El.z))) w.heap.size),
      .val (Is (.int .i64 (errE n m))),
      .val ((VN (lenE n m) (zipE (· - ·) n m (es.map El.z) (fs.map El.z))) w.heap.size),
      .val (Is (.int .i64 (errE n m)))] [.inr 0, .inr 1, .inr 2] [.inl 6, .inl 7, .inr 0, .inr 1, .inr 2, .inr 5, .inr 6, .inr 7, .inr 8, .inr 9, .inr 10] follows S9 rfl (by kernel_rfl) ?_ ?_
  · refine ⟨⟨⟨⟨⟨⟨⟨⟨trivial, ?_⟩, ?_⟩, ?_⟩, ?_⟩, ?_⟩, ?_⟩, ?_⟩, ?_⟩
    · exact owe_move rfl (wants_all rfl) (Or.inl rfl) (opnd_slot 9 0 rfl (by kernel_rfl)) rfl
    · exact owe_move rfl (wants_all rfl) (Or.inl rfl) (opnd_slot 10 1 rfl (by kernel_rfl)) rfl
    · exact owe_callh2 rfl (wants_all rfl) rfl ((opnd_op 0 87 (by kernel_rfl) rfl).imp (vx_vv hE)) ((opnd_op 1 88 (by kernel_rfl) rfl).imp (vx_vv hF)) (fresh_two fresh_vn (fresh_is _)) rfl (fun args w => by go_simp) (fun w u v h h' => rminus_w w u v n m 1048576 1048576 _ _ h h' (by omega) (by omega) (by omega) (by omega))
    · exact owe_move rfl (wants_all rfl) (Or.inl rfl) (opnd_op 2 89 (by kernel_rfl) rfl) rfl
    · exact owe_ext2 rfl (wants_all rfl) rfl (opnd_op 3 86 (by kernel_rfl) rfl) (Or.inl ⟨rfl, rfl⟩) rfl
    · exact owe_ext2 rfl (wants_all rfl) rfl (opnd_op 3 86 (by kernel_rfl) rfl) (Or.inr ⟨rfl, rfl⟩) rfl
    · exact owe_move rfl (wants_all rfl) (Or.inr rfl) (opnd_op 4 90 (by kernel_rfl) rfl) rfl
    · exact owe_move rfl (wants_all rfl) (Or.inr rfl) (opnd_op 5 91 (by kernel_rfl) rfl) rfl
  intro B10 a10 W10 S10
  replace S10 : Sta w 110 [(5, (.box 39 (Zx s pk nk ck xs))), (9, (.box 39 ((ZN (dotE n m (es.map El.z) (fs.map El.z))) w.heap.size))), (11, (.box 39 ((ZN (dotE n m (es.map El.z) (fs.map El.z))) w.heap.size)))] [(14, ((VN (lenE n m) (zipE (· - ·) n m (es.map El.z) (fs.map El.z))) w.heap.size)), (12, (Is (.int .i64 (errE n m)))), (13, ((VN (lenE n m) (zipE (· - ·) n m (es.map El.z) (fs.map El.z))) w.heap.size)), (10, (Is (.int .i64 (errE n m)))), (79, (Is (.bool false))), (58, (Is (.bool false))), (7, ((VO n es) w.heap.size)), (8, ((VO m fs) w.heap.size)), (6, (Is (.bool false))), (0, (Vx n es)), (1, (Vx m fs))] B10 a10 W10 := S10
  refine wp_stmt_seq [.val (Is (.int .i64 (errE n m))),
      .val (Is (.int .i64 (errE n m))),
      .val (Is (.bool true)),
      .val (Is (.bool true)),
      .val ((VN (lenE n m) (zipE (· - ·) n m (es.map El.z) (fs.map El.z))) w.heap.size),
      .val ((VN (lenE n m) (zipE (· - ·) n m (es.map El.z) (fs.map El.z))) w.heap.size),
      .val (Is (.bool true)),
      .val (Is (.bool true)),
      .val (Is (.bool true)),
      .val ((VO n es) w.heap.size),
      .val (Vx n es),
      .val (Is (.bool true)),
      .val (Is (.bool true)),
      .val (Is (.bool true)),
      .val ((VO m fs) w.heap.size),
      .val (Vx m fs),
      .val (Is (.bool true)),
      .val (Is (.bool true)),
      .val (Is (.bool true))] [.inr 0, .inr 1, .inr 2] [.inl 18, .inr 0, .inr 1, .inr 2, .inr 3, .inr 4, .inr 5, .inr 6, .inr 7, .inr 9, .inr 10] follows S10 rfl (by kernel_rfl) ?_ ?_
  · refine ⟨⟨⟨⟨⟨⟨⟨⟨⟨⟨⟨⟨⟨⟨⟨⟨⟨⟨⟨trivial, ?_⟩, ?_⟩, ?_⟩, ?_⟩, ?_⟩, ?_⟩, ?_⟩, ?_⟩, ?_⟩, ?_⟩, ?_⟩, ?_⟩, ?_⟩, ?_⟩, ?_⟩, ?_⟩, ?_⟩, ?_⟩, ?_⟩
    · exact owe_move rfl (wants_all rfl) (Or.inl rfl) (opnd_slot 3 10 rfl (by kernel_rfl)) rfl
    · exact owe_move rfl (wants_all rfl) (Or.inl rfl) (opnd_slot 1 12 rfl (by kernel_rfl)) rfl
    · exact owe_bin rfl (wants_all rfl) rfl (opnd_op 0 92 (by kernel_rfl) rfl) (opnd_op 1 93 (by kernel_rfl) rfl) rfl (fun ρ w h1 h2 => by exact run_eql_int_t ρ _ _ _ w _ _ rfl h1 h2)
    · exact owe_move rfl (wants_all rfl) (Or.inl rfl) (opnd_op 2 94 (by kernel_rfl) rfl) rfl
    · exact owe_move rfl (wants_if 3 95 rfl (by kernel_rfl) rfl) (Or.inl rfl) (opnd_slot 2 13 rfl (by kernel_rfl)) rfl
    · exact owe_move rfl (wants_if 3 95 rfl (by kernel_rfl) rfl) (Or.inl rfl) (opnd_slot 0 14 rfl (by kernel_rfl)) rfl
    · exact owe_callh2 rfl (wants_if 3 95 rfl (by kernel_rfl) rfl) rfl ((opnd_op 4 96 (by kernel_rfl) rfl).imp vn_vs) ((opnd_op 5 97 (by kernel_rfl) rfl).imp vn_vs) (fresh_is _) rfl (fun args w => by go_simp) (fun w u v h h' => eqs_w w u v (lenE n m) _ h h')
    · exact owe_pick rfl (wants_all rfl) rfl (opnd_op 3 95 (by kernel_rfl) rfl) (fun _ => (opnd_op 6 98 (by kernel_rfl) rfl)) (fun h => nomatch h) rfl
    · exact owe_move rfl (wants_all rfl) (Or.inl rfl) (opnd_op 7 99 (by kernel_rfl) rfl) rfl
    · exact owe_move rfl (wants_if 8 100 rfl (by kernel_rfl) rfl) (Or.inl rfl) (opnd_slot 6 7 rfl (by kernel_rfl)) rfl
    · exact owe_move rfl (wants_if 8 100 rfl (by kernel_rfl) rfl) (Or.inl rfl) (opnd_slot 9 0 rfl (by kernel_rfl)) rfl
    · exact owe_callh2 rfl (wants_if 8 100 rfl (by kernel_rfl) rfl) rfl ((opnd_op 9 101 (by kernel_rfl) rfl).imp vo_vs) ((opnd_op 10 102 (by kernel_rfl) rfl).imp vx_vs) (fresh_is _) rfl (fun args w => by go_simp) (fun w u v h h' => eqs_w w u v n _ h h')
    · exact owe_pick rfl (wants_all rfl) rfl (opnd_op 8 100 (by kernel_rfl) rfl) (fun _ => (opnd_op 11 103 (by kernel_rfl) rfl)) (fun h => nomatch h) rfl
    · exact owe_move rfl (wants_all rfl) (Or.inl rfl) (opnd_op 12 104 (by kernel_rfl) rfl) rfl
    · exact owe_move rfl (wants_if 13 105 rfl (by kernel_rfl) rfl) (Or.inl rfl) (opnd_slot 7 8 rfl (by kernel_rfl)) rfl
    · exact owe_move rfl (wants_if 13 105 rfl (by kernel_rfl) rfl) (Or.inl rfl) (opnd_slot 10 1 rfl (by kernel_rfl)) rfl
    · exact owe_callh2 rfl (wants_if 13 105 rfl (by kernel_rfl) rfl) rfl ((opnd_op 14 106 (by kernel_rfl) rfl).imp vo_vs) ((opnd_op 15 107 (by kernel_rfl) rfl).imp vx_vs) (fresh_is _) rfl (fun args w => by go_simp) (fun w u v h h' => eqs_w w u v m _ h h')
    · exact owe_pick rfl (wants_all rfl) rfl (opnd_op 13 105 (by kernel_rfl) rfl) (fun _ => (opnd_op 16 108 (by kernel_rfl) rfl)) (fun h => nomatch h) rfl
    · exact owe_move rfl (wants_all rfl) (Or.inr rfl) (opnd_op 17 109 (by kernel_rfl) rfl) rfl
  intro B11 a11 W11 S11
  replace S11 : Sta w 110 [(5, (.box 39 (Zx s pk nk ck xs))), (9, (.box 39 ((ZN (dotE n m (es.map El.z) (fs.map El.z))) w.heap.size))), (11, (.box 39 ((ZN (dotE n m (es.map El.z) (fs.map El.z))) w.heap.size)))] [(6, (Is (.bool true))), (14, ((VN (lenE n m) (zipE (· - ·) n m (es.map El.z) (fs.map El.z))) w.heap.size)), (12, (Is (.int .i64 (errE n m)))), (13, ((VN (lenE n m) (zipE (· - ·) n m (es.map El.z) (fs.map El.z))) w.heap.size)), (10, (Is (.int .i64 (errE n m)))), (79, (Is (.bool false))), (58, (Is (.bool false))), (7, ((VO n es) w.heap.size)), (8, ((VO m fs) w.heap.size)), (0, (Vx n es)), (1, (Vx m fs))] B11 a11 W11 := S11
  refine wp_ret ?_
  exact end_one S11 rfl (res_tmp S11 0 6 rfl)

theorem matvectors_walk (w : World) (p0 : Option Addr) (n c0 : Nat) (es : List El) (p1 : Option Addr) (m c1 : Nat) (fs : List El) (s : Bool) (pk : Option Addr) (nk ck : Nat) (xs : List Nat) (h : Ls w p0 n c0 es) (h' : Ls w p1 m c1 fs) (hk : Sl w pk nk ck xs) (b0 : c0 ≤ 1048576) (b0' : ∀ (i : Nat) (e : El), es[i]? = some e → e.c ≤ 1048576) (b1 : c1 ≤ 1048576) (b1' : ∀ (i : Nat) (e : El), fs[i]? = some e → e.c ≤ 1048576) (b2 : ck ≤ 1048576) :
    Calls Try.prog 4 #[.slice p0 n c0, .slice p1 m c1, .agg #[.bool s, .slice pk nk ck]] w fun e w' => e = .returned (.bool true) ∧ Below w.heap.size w w' := by
  have q0 := h.cap
  have q1 := h'.cap
  have q2 := hk.cap
  refine (matvectors_w w _ _ n m nk ck es fs s pk xs (ls_hs h) (ls_hs h') hk (by omega) (by omega) (ls_n h b0') (ls_n h' b1') (fun i e he => Nat.le_trans (b0' i e he) (by decide)) (fun i e he => Nat.le_trans (b1' i e he) (by decide)) (by omega) (by omega)).mono ?_
  rintro e w' ⟨v, rfl, hb, hv⟩
  obtain rfl : v = _ := hv
  exact ⟨rfl, hb⟩
end Go.Proofs.Ytiehipnaklkhjaa
