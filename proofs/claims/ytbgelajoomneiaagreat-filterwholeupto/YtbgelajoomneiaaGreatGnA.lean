import Derived.Test.YtbgelajoomneiaaGreatSetL
import Derived.Test.YtbgelajoomneiaaGreatVcA
import Derived.Test.YtbgelajoomneiaaGreatGsA
import Derived.Test.YtbgelajoomneiaaGreatGsD
import Derived.Test.YtbgelajoomneiaaGreatAmA
import Derived.Test.YtbgelajoomneiaaGreatAmD
/-
 Arguments that are data: two lists in a struct; what the row's reading gives.
-/
namespace Go.Proofs.YtbgelajoomneiaaGreat
open Go.ChangeShapes Go.WideShapes Go.ChangeAt Go.RowKit Nt
set_option linter.unusedSimpArgs false
set_option linter.unusedVariables false
set_option maxRecDepth 20000

end Go.Proofs.YtbgelajoomneiaaGreat

/-
 GsoNorms' walk.
-/
namespace Go.Proofs.YtbgelajoomneiaaGreat
open Go Go.RowKit Nt
set_option linter.unusedSimpArgs false
set_option linter.unusedVariables false
set_option maxRecDepth 20000

theorem one_sum {es : List El} {i : Nat} {e : El} (h : es[i]? = some e) : e.c + es.length ≤ (es.map (fun e => e.c + 1)).sum := by
 induction es generalizing i with
 | nil => simp at h
 | cons a r ih =>
  have hr : r.length ≤ (r.map (fun e => e.c + 1)).sum := by
   clear ih h
   induction r with
   | nil => simp
   | cons b s ih => simp only [List.map_cons, List.sum_cons, List.length_cons]; omega
  cases i with
  | zero => simp at h; subst h; simp only [List.map_cons, List.sum_cons, List.length_cons]; omega
  | succ i => have := ih (i := i) (by simpa using h); simp only [List.map_cons, List.sum_cons, List.length_cons]; omega
theorem len_sum (es : List El) : es.length ≤ (es.map (fun e => e.c + 1)).sum := by
 induction es with
 | nil => simp
 | cons b s ih => simp only [List.map_cons, List.sum_cons, List.length_cons]; omega
end Go.Proofs.YtbgelajoomneiaaGreat

/-
 FilterWhole's walk: it returns true and writes nothing that was there.
-/
namespace Go.Proofs.YtbgelajoomneiaaGreat
open Go Go.RowKit Nt
set_option linter.unusedSimpArgs false
set_option linter.unusedVariables false
set_option maxRecDepth 20000

theorem fw_of {n : Nat} {D : List Int} {L : List (List Int)} (hn : n ≤ 1048576) (B : Nat → Prop) (w : World) (u v : Value) (hB : ∀ k, B k → k < w.heap.size) (h : Has B w (SF [Vv (n + 1) D 196, Mv n L 196]) u) (hv : Has B w (QV 0 [] 0) v) : Calls Tryz.prog 16 #[u, v] w fun e w' => ∃ r, e = .returned r ∧ Below w.heap.size w w' ∧ Has B w' (APx (n + 1) n n 4194304 D L (List.replicate n 0) 1) r :=
 of_H (nD := n + 1) (nL := n) (nT := 0) (K := 196) (Kt := 0) (K2 := 4194304) (D := D) (L := L) (ts := []) hn (by omega) (by omega) rfl pl_ok (by decide) (Or.inl rfl) (by omega) (by omega) B w u v hB h hv
theorem fw_q {D : List Int} {n : Nat} {S q : Int} (hn : n ≠ 0) (h : (S * fD D n n) * (1 * 1) = q) : ((1 : Int) * 1) * (S * D.getD (n - n) 0) = q := by
 cases n with
 | zero => exact absurd rfl hn
 | succ n =>
  rw [fD, show n + 1 - 1 - n = 0 by omega] at h
  rw [Nat.sub_self, ← h, Int.mul_comm]

abbrev qraze0  : Rk := .box 26 (Is (.agg #[.slice none 0 0, .slice none 0 0]))
set_option maxHeartbeats 2000000 in
theorem fw_e (w : World) (u v : Value) (n m K Kb : Nat) (Bm : List (List Int)) (x : List Int) (h : Hs w (Mv n Bm Kb) u) (hv : Hs w (Vv m x K) v) (hn : n ≤ 1048576) (hm : m ≤ 1048576) (e0 : Int) (he : e0 ≠ 0) (hof : OfGives n Kb Bm (TWO (IS (.agg #[.slice none 0 0, .slice none 0 0])) (IS (.int .i64 e0)))) :
  Calls Tryz.prog 3 #[u, v] w (Gives (IS (.bool true)) w) := by
 refine calls_sta (sl := [(0, (Mv n Bm Kb)), (1, (Vv m x K))]) Tryz.func3 rfl Tryz.ntmps3 (by simp) (args_cons rfl (h) (args_cons rfl (hv) args_nil)) ?_
 intro a0 S0
 refine wq [kF] [] [.inr 0, .inr 1] S0 ?_ ?_
 ·apply jj1
  ·exact mC
 intro _ a1 _ (S1 : Sta w 80 [] [(0, Mv n Bm Kb), (1, Vv m x K)] _ _ _)
 refine wp_seq ?_
 refine wq [kT, kF] [] [.inl 1, .inr 0, .inr 1] S1 ?_ ?_
 ·apply jj2
  ·exact owe_call0 rfl wA rfl  (fresh_is _) rfl (fun args w => by go_simp) (fun w => falive_w w)
  ·exact b_not wA (oO 0 14)
 intro _ a2 _ (S2 : Sta w 80 [] [(15, bF), (0, Mv n Bm Kb), (1, Vv m x K)] _ _ _)
 refine wp_cond_false (S2.bool 0 15 rfl) (wp_skip (thenN ?_))
 refine wq [.val (Mv n Bm Kb), .val ((TWO (IS (.agg #[.slice none 0 0, .slice none 0 0])) (IS (.int .i64 e0))) w.heap.size), .val ((TWO (IS (.agg #[.slice none 0 0, .slice none 0 0])) (IS (.int .i64 e0))) w.heap.size), .val (Is (.agg #[.slice none 0 0, .slice none 0 0])), .val (iV e0), .new (qraze0), .put (.inr 5) (qraze0), .val (iV e0)] [.inl 5] [.inl 7, .inr 1, .inr 2] S2 ?_ ?_
 ·repeat' refine And.intro ?_ ?_
  ·trivial
  ·exact mS 1 0
  ·exact ch1 wA (qO 0 17 rfl) (fresh_two (fresh_is _) (fresh_is _)) (fun w u h => hof w u h)
  ·exact mO 1 18
  ·exact e20 wA (oO 2 16)
  ·exact e21 wA (oO 2 16)
  ·exact owe_new rfl wA rfl rfl (fun ρ w => alloc_gso ρ _ w)
  ·exact owe_put 5 rfl wA rfl (by kernel_rfl) rfl (oO 3 19) (stores_of strct_gso shp_g0 shp_g0) rfl
  ·exact mO 4 20
 intro _ a3 _ (S3 : Sta w 80 [(5, (qraze0))] [(6, iV e0), (0, Mv n Bm Kb), (1, Vv m x K)] _ _ _)
 refine wp_seq ?_
 refine wq [.val (iV e0), kT, kT, .off, .off, .off, .off, .off, kT] [.inr 0] [.inl 8, .inr 2] S3 ?_ ?_
 ·repeat' refine And.intro ?_ ?_
  ·trivial
  ·exact mS 0 6
  ·exact b_neq_errno_t wA (oO 0 21) (opnd_const _) (h := he)
  ·exact mO 1 22
  ·exact oF 2 23
  ·exact oF 2 23
  ·exact oF 2 23
  ·exact oF 2 23
  ·exact oF 2 23
  ·exact pT wA (oO 2 23) (opnd_const _)
 intro _ a4 _ (S4 : Sta w 80 [(5, (qraze0))] [(29, bT), (1, Vv m x K)] _ _ _)
 refine wp_cond_true (S4.bool 0 29 rfl) ?_
 refine wq [kT] [.inr 0] [.inl 0] S4 ?_ ?_
 ·apply jj1
  ·exact mC
 intro _ a5 _ (S5 : Sta w 80 [(5, (qraze0))] [(4, bT)] _ _ _)
 refine wp_ret (thenR ?_)
 exact end_one S5 rfl (res_tmp S5 0 4 rfl)

abbrev qdhq60 (w : World) (n : Nat) (Bm : List (List Int)) : Rk := .box 26 (SF [((VN (n + 1) (gwD Bm n)) w.heap.size), ((MN n (gwL Bm n)) w.heap.size)])
set_option maxHeartbeats 2000000 in
theorem fw_l (w : World) (u v : Value) (n m K Kb : Nat) (Bm : List (List Int)) (x : List Int) (h : Hs w (Mv n Bm Kb) u) (hv : Hs w (Vv m x K) v) (hn : n ≤ 1048576) (hm : m ≤ 1048576) (hne : m ≠ n) (hof : OfGives n Kb Bm (TWO (GN n (gwD Bm n) (gwL Bm n)) (IS (.int .i64 0)))) :
  Calls Tryz.prog 3 #[u, v] w (Gives (IS (.bool true)) w) := by
 refine calls_sta (sl := [(0, (Mv n Bm Kb)), (1, (Vv m x K))]) Tryz.func3 rfl Tryz.ntmps3 (by simp) (args_cons rfl (h) (args_cons rfl (hv) args_nil)) ?_
 intro a0 S0
 refine wq [kF] [] [.inr 0, .inr 1] S0 ?_ ?_
 ·apply jj1
  ·exact mC
 intro _ a1 _ (S1 : Sta w 80 [] [(0, Mv n Bm Kb), (1, Vv m x K)] _ _ _)
 refine wp_seq ?_
 refine wq [kT, kF] [] [.inl 1, .inr 0, .inr 1] S1 ?_ ?_
 ·apply jj2
  ·exact owe_call0 rfl wA rfl  (fresh_is _) rfl (fun args w => by go_simp) (fun w => falive_w w)
  ·exact b_not wA (oO 0 14)
 intro _ a2 _ (S2 : Sta w 80 [] [(15, bF), (0, Mv n Bm Kb), (1, Vv m x K)] _ _ _)
 refine wp_cond_false (S2.bool 0 15 rfl) (wp_skip (thenN ?_))
 refine wq [.val (Mv n Bm Kb), .val ((TWO (GN n (gwD Bm n) (gwL Bm n)) (IS (.int .i64 0))) w.heap.size), .val ((TWO (GN n (gwD Bm n) (gwL Bm n)) (IS (.int .i64 0))) w.heap.size), .val (SF [((VN (n + 1) (gwD Bm n)) w.heap.size), ((MN n (gwL Bm n)) w.heap.size)]), .val (iV 0), .new (.box 26 (Is (.agg #[.slice none 0 0, .slice none 0 0]))), .put (.inr 5) (qdhq60 w n Bm), .val (iV 0)] [.inl 5] [.inl 7, .inr 1, .inr 2] S2 ?_ ?_
 ·repeat' refine And.intro ?_ ?_
  ·trivial
  ·exact mS 1 0
  ·exact ch1 wA (qO 0 17 rfl) (fresh_two fresh_gn (fresh_is _)) (fun w u h => hof w u h)
  ·exact mO 1 18
  ·exact e20 wA (oO 2 16)
  ·exact e21 wA (oO 2 16)
  ·exact owe_new rfl wA rfl rfl (fun ρ w => alloc_gso ρ _ w)
  ·exact owe_put 5 rfl wA rfl (by kernel_rfl) rfl (oO 3 19) (stores_of strct_gso shp_g0 shp_sf2) rfl
  ·exact mO 4 20
 intro _ a3 _ (S3 : Sta w 80 [(5, (qdhq60 w n Bm))] [(6, iV 0), (0, Mv n Bm Kb), (1, Vv m x K)] _ _ _)
 refine wp_seq ?_
 refine wq [.val (iV 0), kF, kF, .val (Vv m x K), .val (iV (m : Nat)), .val (Mv n Bm Kb), .val (iV (n : Nat)), kT, kT] [.inr 0] [.inl 8, .inr 2] S3 ?_ ?_
 ·repeat' refine And.intro ?_ ?_
  ·trivial
  ·exact mS 0 6
  ·exact b_neq_errno_f wA (oO 0 21) (opnd_const _) (h := rfl)
  ·exact mO 1 22
  ·exact mW (wI 2 23) (oS 2 1)
  ·exact owe_len rfl (wI 2 23) rfl (oO 3 24) ar_len Tryz.underlying23 rfl
  ·exact mW (wI 2 23) (oS 1 0)
  ·exact owe_len rfl (wI 2 23) rfl (oO 5 26) ar_len Tryz.underlying22 rfl
  ·exact b_neq_int_t (wI 2 23) (oO 4 25) (oO 6 27)
  ·exact pF wA (oO 2 23) (oO 7 28)
 intro _ a4 _ (S4 : Sta w 80 [(5, (qdhq60 w n Bm))] [(29, bT), (1, Vv m x K)] _ _ _)
 refine wp_cond_true (S4.bool 0 29 rfl) ?_
 refine wq [kT] [.inr 0] [.inl 0] S4 ?_ ?_
 ·apply jj1
  ·exact mC
 intro _ a5 _ (S5 : Sta w 80 [(5, (qdhq60 w n Bm))] [(4, bT)] _ _ _)
 refine wp_ret (thenR ?_)
 exact end_one S5 rfl (res_tmp S5 0 4 rfl)

abbrev qtc7m0 (w : World) (n : Nat) (Bm : List (List Int)) : Rk := .box 26 (SF [((VN (n + 1) (gwD Bm n)) w.heap.size), ((MN n (gwL Bm n)) w.heap.size)])
abbrev qtc7m1 (w : World) (n : Nat) (Bm : List (List Int)) (x : List Int) : Rk := .box 34 ((RN (lnQ Bm x n) 1) w.heap.size)
set_option maxHeartbeats 2000000 in
theorem fw_w (w : World) (u v : Value) (n K Kb : Nat) (Bm : List (List Int)) (x : List Int) (h : Hs w (Mv n Bm Kb) u) (hv : Hs w (Vv n x K) v) (hn : n ≤ 1048576) (lx : x.length = n) (hKn : K + n ≤ 1048576) (hK2 : 196 ≤ K) (hok : OfOk Bm n) (qn : Nat) (ok : FwOk Bm x n qn) (hof : OfGives n Kb Bm (TWO (GN n (gwD Bm n) (gwL Bm n)) (IS (.int .i64 0)))) :
  Calls Tryz.prog 3 #[u, v] w (Gives (IS (.bool true)) w) := by
 have dx := vv_dl hv.now
 have gd := gw_good hok
 have h12 := hok.top
 have dD2 : Dl (gwD Bm n) K := fun i z hz => Nat.le_trans (ok.dD i z hz) hK2
 have dL2 : Mdl (gwL Bm n) K := fun i r hr => fun j z hz => Nat.le_trans (ok.dL i r hr j z hz) hK2
 have hln := ok.hl
 have dl_1 : (digs 1).length ≤ 1 := one_dl
 refine calls_sta (sl := [(0, (Mv n Bm Kb)), (1, (Vv n x K))]) Tryz.func3 rfl Tryz.ntmps3 (by simp) (args_cons rfl (h) (args_cons rfl (hv) args_nil)) ?_
 intro a0 S0
 refine wq [kF] [] [.inr 0, .inr 1] S0 ?_ ?_
 ·apply jj1
  ·exact mC
 intro _ a1 _ (S1 : Sta w 80 [] [(0, Mv n Bm Kb), (1, Vv n x K)] _ _ _)
 refine wp_seq ?_
 refine wq [kT, kF] [] [.inl 1, .inr 0, .inr 1] S1 ?_ ?_
 ·apply jj2
  ·exact owe_call0 rfl wA rfl  (fresh_is _) rfl (fun args w => by go_simp) (fun w => falive_w w)
  ·exact b_not wA (oO 0 14)
 intro _ a2 _ (S2 : Sta w 80 [] [(15, bF), (0, Mv n Bm Kb), (1, Vv n x K)] _ _ _)
 refine wp_cond_false (S2.bool 0 15 rfl) (wp_skip (thenN ?_))
 refine wq [.val (Mv n Bm Kb), .val ((TWO (GN n (gwD Bm n) (gwL Bm n)) (IS (.int .i64 0))) w.heap.size), .val ((TWO (GN n (gwD Bm n) (gwL Bm n)) (IS (.int .i64 0))) w.heap.size), .val (SF [((VN (n + 1) (gwD Bm n)) w.heap.size), ((MN n (gwL Bm n)) w.heap.size)]), .val (iV 0), .new (.box 26 (Is (.agg #[.slice none 0 0, .slice none 0 0]))), .put (.inr 5) (qtc7m0 w n Bm), .val (iV 0)] [.inl 5] [.inl 7, .inr 1, .inr 2] S2 ?_ ?_
 ·repeat' refine And.intro ?_ ?_
  ·trivial
  ·exact mS 1 0
  ·exact ch1 wA (qO 0 17 rfl) (fresh_two fresh_gn (fresh_is _)) (fun w u h => hof w u h)
  ·exact mO 1 18
  ·exact e20 wA (oO 2 16)
  ·exact e21 wA (oO 2 16)
  ·exact owe_new rfl wA rfl rfl (fun ρ w => alloc_gso ρ _ w)
  ·exact owe_put 5 rfl wA rfl (by kernel_rfl) rfl (oO 3 19) (stores_of strct_gso shp_g0 shp_sf2) rfl
  ·exact mO 4 20
 intro _ a3 _ (S3 : Sta w 80 [(5, (qtc7m0 w n Bm))] [(6, iV 0), (0, Mv n Bm Kb), (1, Vv n x K)] _ _ _)
 refine wp_seq ?_
 refine wq [.val (iV 0), kF, kF, .val (Vv n x K), .val (iV (n : Nat)), .val (Mv n Bm Kb), .val (iV (n : Nat)), kF, kF] [.inr 0] [.inl 8, .inr 2] S3 ?_ ?_
 ·repeat' refine And.intro ?_ ?_
  ·trivial
  ·exact mS 0 6
  ·exact b_neq_errno_f wA (oO 0 21) (opnd_const _) (h := rfl)
  ·exact mO 1 22
  ·exact mW (wI 2 23) (oS 2 1)
  ·exact owe_len rfl (wI 2 23) rfl (oO 3 24) ar_len Tryz.underlying23 rfl
  ·exact mW (wI 2 23) (oS 1 0)
  ·exact owe_len rfl (wI 2 23) rfl (oO 5 26) ar_len Tryz.underlying22 rfl
  ·exact b_neq_int_f (wI 2 23) (oO 4 25) (oO 6 27)
  ·exact pF wA (oO 2 23) (oO 7 28)
 intro _ a4 _ (S4 : Sta w 80 [(5, (qtc7m0 w n Bm))] [(29, bF), (1, Vv n x K)] _ _ _)
 refine wp_cond_false (S4.bool 0 29 rfl) (wp_skip (thenN ?_))
 refine wq [.new (.row 32 2 0 (CE 2 ((rvL x n 0).map (fun z => Zv z K))))] [.inr 0, .inl 0] [.inr 1] S4 ?_ ?_
 ·apply jj1
  ·exact owe_nilrow rfl wA rfl rfl ce_nil
 intro _ a5 _ (S5 : Sta w 80 [(5, (qtc7m0 w n Bm)), (7, (.row 32 2 0 (CE 2 ((rvL x n 0).map (fun z => Zv z K)))))] [(1, Vv n x K)] _ _ _)
 refine wp_seq ?_
 refine wq [.val (Vv n x K), .val (iV (n : Nat)), .val (Is (.int .i64 (((n : Nat) : Int) - 1 - ((0 : Nat) : Int)))), .val (Is (.int .i64 (((n : Nat) : Int) - 1 - ((0 : Nat) : Int))))] [.inr 0, .inr 1] [.inl 3, .inr 0] S5 ?_ ?_
 ·apply jj4
  ·exact mS 0 1
  ·exact owe_len rfl wA rfl (oO 0 30) ar_len Tryz.underlying23 rfl
  ·exact b_sub_int wA (oO 1 31) (opnd_const _)
  ·exact mO 2 32
 intro B6 a6 _ (S6 : Sta w 80 [(5, (qtc7m0 w n Bm)), (7, (.row 32 2 0 (CE 2 ((rvL x n 0).map (fun z => Zv z K)))))] [(8, Is (.int .i64 (((n : Nat) : Int) - 1 - ((0 : Nat) : Int)))), (1, Vv n x K)] _ _ _)
 refine wp_block ?_
 refine wp_loop_ghost (fun (k0 : Nat) a W => (k0 ≤ n) ∧ ∃ Bq, Sta w 80 [(5, (qtc7m0 w n Bm)), (7, (.row 32 2 k0 (CE 2 ((rvL x n k0).map (fun z => Zv z K)))))] [(8, Is (.int .i64 (((n : Nat) : Int) - 1 - ((k0 : Nat) : Int)))), (1, Vv n x K)] Bq a W) (fun (k0 : Nat) => n - k0) ?_ 0 ⟨Nat.zero_le _, B6, S6.sub [0, 1] [0, 1]⟩
 rintro k0 a7 _ ⟨hcond, _, S7⟩
 by_cases hlt : k0 < n
 ·rw [show ((n : Nat) : Int) - 1 - ((k0 : Nat) : Int) = ((n - 1 - k0 : Nat) : Int) by omega] at S7
  refine wp_seq ?_
  refine wq [.val (iV ((n - 1 - k0 : Nat) : Int)), kT] [.inr 0, .inr 1] [.inl 1, .inr 0, .inr 1] S7 ?_ ?_
  ·apply jj2
   ·exact mS 0 8
   ·exact b_geq_int_t wA (oO 0 33) (opnd_const _)
  intro B8 a8 W8 (S8 : Sta w 80 [(5, (qtc7m0 w n Bm)), (7, (.row 32 2 k0 (CE 2 ((rvL x n k0).map (fun z => Zv z K)))))] [(34, bT), (8, iV ((n - 1 - k0 : Nat) : Int)), (1, Vv n x K)] _ _ _)
  refine wp_cond_true (S8.bool 0 34 rfl) (wp_skip (thenN (wp_seq (wp_block ?_))))
  refine wr [.val (Is (a8.eval (.tmp 7))), .val (Vv n x K), .val (iV ((n - 1 - k0 : Nat) : Int)), .val (AtE 2 (Zv (x.getD (n - 1 - k0) 0) K)), .val (Zv (x.getD (n - 1 - k0) 0) K), .val (Sng 32 2 (Zv (x.getD (n - 1 - k0) 0) K) w.heap.size), .mov 7 (.row 32 2 (k0 + 1) (CE 2 ((rvL x n ((k0 + 1))).map (fun z => Zv z K)))), .ref 6] [.inr 0, .inl 7] [.inr 1, .inr 2] S8 ?_ ?_
  ·repeat' refine And.intro ?_ ?_
   ·trivial
   ·exact owe_same rfl wA (Or.inl rfl) (by kernel_rfl) rfl
   ·exact mS 2 1
   ·exact mS 1 8
   ·exact owe_aindex rfl wA rfl idx_ints (oO 1 38) (oO 2 39) (zv_at (by omega)) rfl
   ·exact owe_aload rfl wA rfl ldr_int (by decide) (cel_shp (by decide) shp_zv) (oO 3 40) rfl
   ·exact owe_b1 rfl wA rfl bld_int (oO 4 41) (cel_shp (by decide) shp_zv) rfl
   ·exact owe_append rfl wA rfl (oO 0 37) (k := 1) rfl (by kernel_rfl) ((oO 5 42).imp b1_src) einf_int Tryz.underlying23 (by decide) ⟨by unfold maxLen; omega, by omega⟩ rfl (fun xs ys w h1 h2 => by rw [rvL, List.map_append]; exact ce_append _ _ _ h1 h2)
   ·exact owe_ref 6 rfl wA (Or.inr rfl) (by kernel_rfl) rfl rfl
  intro B9 a9 W9 (S9 : Sta w 80 [(5, (qtc7m0 w n Bm)), (7, (.row 32 2 (k0 + 1) (CE 2 ((rvL x n ((k0 + 1))).map (fun z => Zv z K)))))] [(8, iV ((n - 1 - k0 : Nat) : Int)), (1, Vv n x K)] _ _ _)
  refine inBlkN (thenN ?_)
  refine wr [.val (iV ((n - 1 - k0 : Nat) : Int)), .val (Is (.int .i64 (((n : Nat) : Int) - 1 - ((k0 + 1 : Nat) : Int)))), .val (Is (.int .i64 (((n : Nat) : Int) - 1 - ((k0 + 1 : Nat) : Int))))] [.inr 0, .inr 1] [.inl 2, .inr 1] S9 ?_ ?_
  ·apply jj3
   ·exact mS 0 8
   ·exact b_sub_int wA (oO 0 35) (opnd_const _)
   ·exact mO 1 36
  intro B10 a10 W10 (S10 : Sta w 80 [(5, (qtc7m0 w n Bm)), (7, (.row 32 2 (k0 + 1) (CE 2 ((rvL x n ((k0 + 1))).map (fun z => Zv z K)))))] [(8, Is (.int .i64 (((n : Nat) : Int) - 1 - ((k0 + 1 : Nat) : Int)))), (1, Vv n x K)] _ _ _)
  refine thenN ?_
  exact ⟨k0 + 1, ⟨by omega, B10, S10.sub [0, 1] [0, 1]⟩, by omega⟩
 ·have ek : k0 = n := by omega
  rw [ek] at S7
  refine wp_seq ?_
  refine wq [.val (Is (.int .i64 (((n : Nat) : Int) - 1 - ((n : Nat) : Int)))), kF] [.inr 0, .inr 1] [.inl 1, .inr 0, .inr 1] S7 ?_ ?_
  ·apply jj2
   ·exact mS 0 8
   ·exact b_geq_int_f wA (oO 0 33) (opnd_const _)
  intro B8 a8 W8 (S8 : Sta w 80 [(5, (qtc7m0 w n Bm)), (7, (.row 32 2 n (CE 2 ((rvL x n n).map (fun z => Zv z K)))))] [(34, bF), (8, Is (.int .i64 (((n : Nat) : Int) - 1 - ((n : Nat) : Int)))), (1, Vv n x K)] _ _ _)
  refine wp_cond_false (S8.bool 0 34 rfl) (wp_exit (thenX (thenX (inBlkE (thenN ?_)))))
  obtain ⟨B9, S9⟩ : ∃ Bq, Sta w 80 [(5, (qtc7m0 w n Bm))] [(7, Vv n (rvL x n n) K), (34, bF), (8, Is (.int .i64 (((n : Nat) : Int) - 1 - ((n : Nat) : Int)))), (1, Vv n x K)] Bq a8 W8 := ⟨_, S8.freeze 1 rfl (by simp) (fun v w' xs ho hc => row_ar (by decide) v w' xs ho hc)⟩
  obtain ⟨a9, W9, e1, e2⟩ : ∃ a W, a8 = a ∧ W8 = W := ⟨_, _, rfl, rfl⟩
  rw [e1, e2] at S9 ⊢
  clear e1 e2
  refine wq [.val (SF [((VN (n + 1) (gwD Bm n)) w.heap.size), ((MN n (gwL Bm n)) w.heap.size)]), .val (Vv n (rvL x n n) K), .val ((TWO (RN (lnQ Bm x n) 1) (IS (.int .i64 0))) w.heap.size), .val ((TWO (RN (lnQ Bm x n) 1) (IS (.int .i64 0))) w.heap.size), .val ((RN (lnQ Bm x n) 1) w.heap.size), .val (iV 0), .new (.box 34 zR), .put (.inr 6) (qtc7m1 w n Bm x), .val (iV 0)] [.inr 0, .inl 6] [.inl 8, .inr 0, .inr 2, .inr 3] S9 ?_ ?_
  ·repeat' refine And.intro ?_ ?_
   ·trivial
   ·exact lod 0 wA (loads_of strct_gso shp_sf2)
   ·exact mS 0 7
   ·exact owe_callh3 rfl wA rfl ((oO 0 45).imp (sf_imp (vn_vv ok.dD) (mn_mv ok.dL))) ((opnd_const _).imp nil_qv) (oO 1 46) (fresh_two (fresh_rn _ _) (fresh_is _)) rfl (fun args w => by go_simp) (fun w u0 u1 u2 h0 h1 h2 => Gives.cast (fnm_w w u0 u1 u2 (n + 1) n 0 196 0 n K (gwD Bm n) (gwL Bm n) [] (rvL x n n) h0 h1 h2 (by omega) hn (by omega) hn (by omega) (by omega) (by omega) (gw_len Bm n).1 (gw_len Bm n).2 rfl (rvL_len x n n) ⟨gd, Or.inl rfl, by rw [(gw_len Bm n).2]; exact Nat.le_refl _, pl_ok, pl_ok⟩ 4194304 (List.replicate n 0) 1 (by omega) List.length_replicate (fw_of hn) (fun k hk => Nat.le_trans (ok.hN k hk) (by omega)) (fun k hk => Nat.le_trans (ok.hR k hk) (by omega)) K (shR_dl dx) qn (fw_q (by have := hok.pos; omega) ok.hq) ok.h0 (Nat.le_trans ok.hd (by omega))) (by rw [f_cast hok ok.hq ok.h0]))
   ·exact mO 2 47
   ·exact e20 wA (oO 3 44)
   ·exact e21 wA (oO 3 44)
   ·exact owe_new rfl wA rfl rfl (fun ρ w => alloc_rat ρ _ w)
   ·exact owe_put 6 rfl wA rfl (by kernel_rfl) rfl (oO 4 48) (stores_of strct_rat shp_r0 (shp_pr shp_zn shp_zn)) rfl
   ·exact mO 5 49
  intro B10 a10 W10 (S10 : Sta w 80 [(5, (qtc7m0 w n Bm)), (9, (qtc7m1 w n Bm x))] [(6, iV 0), (7, Vv n (rvL x n n) K), (8, Is (.int .i64 (((n : Nat) : Int) - 1 - ((n : Nat) : Int)))), (1, Vv n x K)] _ _ _)
  refine wq [.val (SF [((VN (n + 1) (gwD Bm n)) w.heap.size), ((MN n (gwL Bm n)) w.heap.size)]), .val (Vv n x K), .val ((TWO (RN (lnQ Bm x n) 1) (IS (.int .i64 0))) w.heap.size), .val ((TWO (RN (lnQ Bm x n) 1) (IS (.int .i64 0))) w.heap.size), .val ((RN (lnQ Bm x n) 1) w.heap.size), .val (iV 0), .new (.box 34 zR), .put (.inr 6) (qtc7m1 w n Bm x), .val (iV 0)] [.inr 0, .inr 1, .inl 6] [.inl 8, .inr 0, .inr 1, .inr 2, .inr 3] S10 ?_ ?_
  ·repeat' refine And.intro ?_ ?_
   ·trivial
   ·exact lod 0 wA (loads_of strct_gso shp_sf2)
   ·exact mS 3 1
   ·exact ch2 wA ((qO 0 51 rfl).imp (sf_imp (vn_vv dD2) (mn_mv dL2))) (qO 1 52 rfl) (fresh_two (fresh_rn _ _) (fresh_is _)) (fun w u0 u1 h0 h1 => by exact Gives.cast (nrm_w w u0 u1 (n + 1) n n K (gwD Bm n) x (gwL Bm n) h0 h1 (by omega) hn hn (by omega) (gw_len Bm n).1 (gw_len Bm n).2 lx gd rfl dD2 dx dL2 hKn ok.hw) (by rw [nm_cast hok]))
   ·exact mO 2 53
   ·exact e20 wA (oO 3 50)
   ·exact e21 wA (oO 3 50)
   ·exact owe_new rfl wA rfl rfl (fun ρ w => alloc_rat ρ _ w)
   ·exact owe_put 6 rfl wA rfl (by kernel_rfl) rfl (oO 4 54) (stores_of strct_rat shp_r0 (shp_pr shp_zn shp_zn)) rfl
   ·exact mO 5 55
  intro _ a11 _ (S11 : Sta w 80 [(5, (qtc7m0 w n Bm)), (9, (qtc7m1 w n Bm x)), (10, (qtc7m1 w n Bm x))] [(11, iV 0), (6, iV 0), (7, Vv n (rvL x n n) K), (8, Is (.int .i64 (((n : Nat) : Int) - 1 - ((n : Nat) : Int)))), (1, Vv n x K)] _ _ _)
  refine wp_seq ?_
  refine wq [.val (iV 0), kF, kF, .val (iV 0), kF, kF] [.inr 0, .inr 1, .inr 2] [.inl 5, .inr 2, .inr 3, .inr 4] S11 ?_ ?_
  ·apply jj6
   ·exact mS 1 6
   ·exact b_neq_errno_f wA (oO 0 56) (opnd_const _) (h := rfl)
   ·exact mO 1 57
   ·exact mW (wI 2 58) (oS 0 11)
   ·exact b_neq_errno_f (wI 2 58) (oO 3 59) (opnd_const _) (h := rfl)
   ·exact pF wA (oO 2 58) (oO 4 60)
  intro _ a12 _ (S12 : Sta w 80 [(5, (qtc7m0 w n Bm)), (9, (qtc7m1 w n Bm x)), (10, (qtc7m1 w n Bm x))] [(61, bF), (7, Vv n (rvL x n n) K), (8, Is (.int .i64 (((n : Nat) : Int) - 1 - ((n : Nat) : Int)))), (1, Vv n x K)] _ _ _)
  refine wp_cond_false (S12.bool 0 61 rfl) (wp_skip (thenN ?_))
  refine wq [.val ((RN (lnQ Bm x n) 1) w.heap.size), .val ((RN (lnQ Bm x n) 1) w.heap.size), .val ((TWO (IS (.int .i64 ((lnQ Bm x n) * ((1 : Nat) : Int) - (lnQ Bm x n) * ((1 : Nat) : Int)).sign)) (IS (.int .i64 0))) w.heap.size), .val ((TWO (IS (.int .i64 ((lnQ Bm x n) * ((1 : Nat) : Int) - (lnQ Bm x n) * ((1 : Nat) : Int)).sign)) (IS (.int .i64 0))) w.heap.size), .val (Is (.int .i64 ((lnQ Bm x n) * ((1 : Nat) : Int) - (lnQ Bm x n) * ((1 : Nat) : Int)).sign)), .val (iV 0), .val (Is (.int .i64 ((lnQ Bm x n) * ((1 : Nat) : Int) - (lnQ Bm x n) * ((1 : Nat) : Int)).sign)), .val (iV 0)] [.inr 0, .inr 1] [.inl 6, .inl 7, .inr 1, .inr 2, .inr 3] S12 ?_ ?_
  ·repeat' refine And.intro ?_ ?_
   ·trivial
   ·exact lod 1 wA (loads_of strct_rat (shp_pr shp_zn shp_zn))
   ·exact lod 2 wA (loads_of strct_rat (shp_pr shp_zn shp_zn))
   ·exact cc2 wA (qO 0 63 rfl) (qO 1 64 rfl) (fresh_two (fresh_is _) (fresh_is _)) (fun w u v h1 h2 => g_ratcmp (k1 := 4194304) (k2 := 1) (k3 := 4194304) (k4 := 1) (by decide) (by decide) (by omega) (by omega) (by omega) (by omega) w u v (rn_rv hln dl_1 _ _ h1) (rn_rv hln dl_1 _ _ h2))
   ·exact mO 2 65
   ·exact e20 wA (oO 3 62)
   ·exact e21 wA (oO 3 62)
   ·exact mO 4 66
   ·exact mO 5 67
  intro _ a13 _ (S13 : Sta w 80 [(5, (qtc7m0 w n Bm)), (9, (qtc7m1 w n Bm x))] [(12, Is (.int .i64 ((lnQ Bm x n) * ((1 : Nat) : Int) - (lnQ Bm x n) * ((1 : Nat) : Int)).sign)), (13, iV 0), (7, Vv n (rvL x n n) K), (8, Is (.int .i64 (((n : Nat) : Int) - 1 - ((n : Nat) : Int)))), (1, Vv n x K)] _ _ _)
  refine wq [.val (iV 0), kT, kT, .val (Is (.int .i64 ((lnQ Bm x n) * ((1 : Nat) : Int) - (lnQ Bm x n) * ((1 : Nat) : Int)).sign)), kT, kT, kT, .val (Part a13 9 2), .val ((ZN (((1 : Nat) : Int))) w.heap.size), .val ((ZN (1)) w.heap.size), kT, kT, kT] [.inr 0] [.inl 12, .inr 2, .inr 3, .inr 4] S13 ?_ ?_
  ·repeat' refine And.intro ?_ ?_
   ·trivial
   ·exact mS 1 13
   ·exact b_eql_errno_t wA (oO 0 68) (opnd_const _) (h := rfl)
   ·exact mO 1 69
   ·exact mW (wI 2 70) (oS 0 12)
   ·exact b_eql_int_t (wI 2 70) (oO 3 71) (opnd_const _) (h := by rw [Int.sub_self]; rfl)
   ·exact pT wA (oO 2 70) (oO 4 72)
   ·exact mO 5 73
   ·exact owe_part rfl (wI 6 74) rfl (k := 1) rfl (by kernel_rfl) rfl (fun ρ w b h => part_rat1 ρ _ _ w b 0 h)
   ·exact owe_pload rfl (wI 6 74) rfl (oO 7 75) (k := 1) rfl (by kernel_rfl) rfl (fun ρ w b u h1 h2 h3 => pload_den ρ _ _ w b u h1 h2 h3)
   ·exact cc1 (wI 6 74) (opnd_const _) (fresh_zn _) (g_zof (1) (by omega) (by omega))
   ·exact cc2 (wI 6 74) (qO 8 76 rfl) (qO 9 77 rfl) (fresh_is _) g_eq
   ·exact pT wA (oO 6 74) (oO 10 78)
   ·exact mO 11 79
  intro _ a14 _ (S14 : Sta w 80 [(5, (qtc7m0 w n Bm))] [(4, bT), (7, Vv n (rvL x n n) K), (8, Is (.int .i64 (((n : Nat) : Int) - 1 - ((n : Nat) : Int)))), (1, Vv n x K)] _ _ _)
  refine wp_ret ?_
  exact end_one S14 rfl (res_tmp S14 0 4 rfl)


theorem filterwhole_walk (w : World) (b : Option Addr) (n d : Nat) (rs : List Rw) (a1 : Option Addr) (m c1 : Nat) (fs : List El) (z0 : Ms w b n d rs) (s1 : Ls w a1 m c1 fs) (y0 : d ≤ 1048576) (yy0 : ∀ (i : Nat) (r : Rw), rs[i]? = some r → r.c ≤ 1048576 ∧ ∀ (j : Nat) (e : El), r.es[j]? = some e → e.c ≤ 1048576) (u1 : c1 ≤ 1048576) (uu1 : ∀ (i : Nat) (e : El), fs[i]? = some e → e.c ≤ 1048576) (t0 : (rs.map (fun r => (r.es.map (fun e => e.c + 1)).sum)).sum ≤ 1048576) (t1 : (fs.map (fun e => e.c + 1)).sum ≤ 1048576) :
  Calls Tryz.prog 3 #[.slice b n d, .slice a1 m c1] w fun e w' => e = .returned (.bool true) ∧ Below w.heap.size w w' := by
 have l1 := s1.len
 have q1 := len_sum fs
 have q2 := z0.cap
 have q3 := z0.len
 obtain ⟨e1, _, e3⟩ := ms_n z0 (k := 1048576) yy0
 have hb : Hs w (Mv n (zz (rs.map Rw.es)) 1048576) (.slice b n d) := fun w' ev => mx_mv e1 _ w' (ms_hs z0 w' ev)
 have hml : Ml (zz (rs.map Rw.es)) 1048576 := fun i zs hz => by
  obtain ⟨es, he, rfl⟩ := map_get hz
  rw [List.length_map]
  exact e3 i es he
 have hdl : Mdl (zz (rs.map Rw.es)) 1048576 := fun i zs hz => by
  obtain ⟨r, hr⟩ := mv_row hb.now hz
  exact vv_dl hr
 have hv : Hs w (Vv m (fs.map El.z) (1048576 - m)) (.slice a1 m c1) := fun w' ev => vx_vv (fun i x hx => by
  obtain ⟨_, _, _, _, _, hs⟩ := s1.lie i x hx
  have := hs.cap
  have := one_sum hx
  omega) _ w' (ls_hs s1 w' ev)
 have key : Calls Tryz.prog 3 #[.slice b n d, .slice a1 m c1] w (Gives (IS (.bool true)) w) := by
  rcases of_all n 1048576 (zz (rs.map Rw.es)) (by simp [zz, z0.len]) (by omega) (by omega) (by omega) hml hdl with ⟨e0, he, hof⟩ | ⟨hok, hof⟩
  ·exact fw_e w _ _ n m _ 1048576 _ _ hb hv (by omega) (by omega) e0 he hof
  ·by_cases hne : m = n
   ·subst hne
    have h12 := hok.top
    obtain ⟨qn, ok⟩ := fw_ok hok (vv_dl hv.now) (by omega)
    exact fw_w w _ _ m _ 1048576 _ _ hb hv (by omega) (by simp [l1]) (by omega) (by omega) hok qn ok hof
   ·exact fw_l w _ _ n m _ 1048576 _ _ hb hv (by omega) (by omega) hne hof
 refine key.mono ?_
 rintro e w' ⟨v, rfl, hb, hv⟩
 obtain rfl : v = _ := hv
 exact ⟨rfl, hb⟩
end Go.Proofs.YtbgelajoomneiaaGreat
