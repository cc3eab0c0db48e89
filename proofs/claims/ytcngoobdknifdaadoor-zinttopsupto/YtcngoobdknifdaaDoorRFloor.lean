/-
  The document's quotients: Floor, Near, Exact.
-/
import Derived.Test.YtcngoobdknifdaaDoorConts
namespace Go.Proofs.YtcngoobdknifdaaDoor
open Go Go.RowKit Nt
set_option linter.unusedSimpArgs false
set_option linter.unusedVariables false

set_option maxHeartbeats 400000 in
theorem rfloor_w1 (w : World) (s t : Bool) (p q : Option Addr) (n c m d : Nat) (xs ys : List Nat) (h : Sl w p n c xs) (h' : Sl w q m d ys) (A B X R : Int) (eA : sg s (val xs) = A) (eB : sg t (val ys) = B) (eX : sg (s != t) (val xs / val ys) = X) (eR : A - X * B = R) (dR : (digs R.natAbs).length ≤ m) (hy : val ys ≠ 0) (hs : n + m + 1 ≤ 35184372088831) (h0 : R.sign = 0) :
    Calls Tryd.prog 23 #[.agg #[.bool s, .slice p n c], .agg #[.bool t, .slice q m d]] w (Gives (TWO (ZN (X)) (ZN (R))) w) := by
  have dA : (digs A.natAbs).length ≤ n := by rw [← eA]; exact sg_dl h
  have dB : (digs B.natAbs).length ≤ m := by rw [← eB]; exact sg_dl h'
  have dX : (digs X.natAbs).length ≤ n := by rw [← eX, sg_abs]; exact Nat.le_trans (digs_length_mono (Nat.div_le_self _ _)) h.dl
  have dXB := dl_mul dX dB
  have dq : (digs (val xs / val ys)).length ≤ n := Nat.le_trans (digs_length_mono (Nat.div_le_self _ _)) h.dl
  refine calls_sta (sl := [(0, (Zx s p n c xs)), (1, (Zx t q m d ys))]) Tryd.func23 rfl Tryd.ntmps23 (by simp) (args_cons rfl (zx_has h) (args_cons rfl (zx_has h') args_nil)) ?_
  intro a0 S0
  refine wp_stmt_seq [.new (.box 24 (Zx s p n c xs)),
      .new (.box 24 (Zx t q m d ys)),
      .new (.box 24 (Is (.agg #[.bool false, .slice none 0 0]))),
      .new (.box 24 (Is (.agg #[.bool false, .slice none 0 0])))] [.inl 0, .inl 1, .inl 2, .inl 3] [] follows S0 rfl (by kernel_rfl) ?_ ?_
  · refine ⟨⟨⟨⟨trivial, ?_⟩, ?_⟩, ?_⟩, ?_⟩
    · exact owe_box rfl (wants_all rfl) rfl (opnd_slot 0 0 rfl (by kernel_rfl)) rfl (fun ρ w h => box_int shp_zx ρ _ _ w h)
    · exact owe_box rfl (wants_all rfl) rfl (opnd_slot 1 1 rfl (by kernel_rfl)) rfl (fun ρ w h => box_int shp_zx ρ _ _ w h)
    · exact owe_new rfl (wants_all rfl) rfl rfl (fun ρ w => alloc_int ρ _ w)
    · exact owe_new rfl (wants_all rfl) rfl rfl (fun ρ w => alloc_int ρ _ w)
  intro B1 a1 W1 S1
  replace S1 : Sta w 50 [(2, (.box 24 (Zx s p n c xs))), (3, (.box 24 (Zx t q m d ys))), (4, (.box 24 (Is (.agg #[.bool false, .slice none 0 0])))), (5, (.box 24 (Is (.agg #[.bool false, .slice none 0 0]))))] [] B1 a1 W1 := S1
  refine wp_stmt_seq [.val (Part a1 2 1),
      .val (Nx p n c xs),
      .val (Part a1 3 1),
      .val (Nx q m d ys),
      .val ((THREE (NN (val xs / val ys)) (NN (val xs % val ys)) (IS (.int .i64 0))) w.heap.size),
      .val ((THREE (NN (val xs / val ys)) (NN (val xs % val ys)) (IS (.int .i64 0))) w.heap.size),
      .val ((NN (val xs / val ys)) w.heap.size),
      .val ((NN (val xs % val ys)) w.heap.size),
      .val (Is (.int .i64 0)),
      .val ((NN (val xs / val ys)) w.heap.size),
      .val ((NN (val xs % val ys)) w.heap.size),
      .val (Is (.int .i64 0))] [.inr 0, .inr 1, .inr 2, .inr 3] [.inl 9] follows S1 rfl (by kernel_rfl) ?_ ?_
  · refine ⟨⟨⟨⟨⟨⟨⟨⟨⟨⟨⟨⟨trivial, ?_⟩, ?_⟩, ?_⟩, ?_⟩, ?_⟩, ?_⟩, ?_⟩, ?_⟩, ?_⟩, ?_⟩, ?_⟩, ?_⟩
    · exact owe_part rfl (wants_all rfl) rfl (k := 0) rfl (by kernel_rfl) rfl (fun ρ w b h => part_int1 ρ _ _ w b 0 h)
    · exact owe_pload rfl (wants_all rfl) rfl (opnd_op 0 12 (by kernel_rfl) rfl) (k := 0) rfl (by kernel_rfl) rfl (fun ρ w b u h1 h2 h3 => pload_mag zx_mag ρ _ _ w b u h1 h2 h3)
    · exact owe_part rfl (wants_all rfl) rfl (k := 1) rfl (by kernel_rfl) rfl (fun ρ w b h => part_int1 ρ _ _ w b 0 h)
    · exact owe_pload rfl (wants_all rfl) rfl (opnd_op 2 14 (by kernel_rfl) rfl) (k := 1) rfl (by kernel_rfl) rfl (fun ρ w b u h1 h2 h3 => pload_mag zx_mag ρ _ _ w b u h1 h2 h3)
    · exact owe_call2 rfl (wants_all rfl) rfl (opnd_op 1 13 (by kernel_rfl) rfl) (opnd_op 3 15 (by kernel_rfl) rfl) (fresh_three (fresh_nn _) (fresh_nn _) (fresh_is _)) rfl (fun args w => by go_simp) (fun w u v h1 h2 => g_rdiv hy (by omega) (by omega) w u v ((nx_nv (Nat.le_refl _)) _ _ h1) ((nx_nv (Nat.le_refl _)) _ _ h2))
    · exact owe_move rfl (wants_all rfl) (Or.inl rfl) (opnd_op 4 16 (by kernel_rfl) rfl) rfl
    · exact owe_ext3 rfl (wants_all rfl) rfl (opnd_op 5 11 (by kernel_rfl) rfl) (Or.inl ⟨rfl, rfl⟩) rfl
    · exact owe_ext3 rfl (wants_all rfl) rfl (opnd_op 5 11 (by kernel_rfl) rfl) (Or.inr (Or.inl ⟨rfl, rfl⟩)) rfl
    · exact owe_ext3 rfl (wants_all rfl) rfl (opnd_op 5 11 (by kernel_rfl) rfl) (Or.inr (Or.inr ⟨rfl, rfl⟩)) rfl
    · exact owe_move rfl (wants_all rfl) (Or.inr rfl) (opnd_op 6 17 (by kernel_rfl) rfl) rfl
    · exact owe_move rfl (wants_all rfl) (Or.inr rfl) (opnd_op 7 18 (by kernel_rfl) rfl) rfl
    · exact owe_move rfl (wants_all rfl) (Or.inr rfl) (opnd_op 8 19 (by kernel_rfl) rfl) rfl
  intro B2 a2 W2 S2
  replace S2 : Sta w 50 [(2, (.box 24 (Zx s p n c xs))), (3, (.box 24 (Zx t q m d ys))), (4, (.box 24 (Is (.agg #[.bool false, .slice none 0 0])))), (5, (.box 24 (Is (.agg #[.bool false, .slice none 0 0]))))] [(6, ((NN (val xs / val ys)) w.heap.size))] B2 a2 W2 := S2
  refine wp_stmt_seq [.val (Part a2 2 0),
      .val (Is (.bool s)),
      .val (Part a2 3 0),
      .val (Is (.bool t)),
      .val (Is (.bool (s != t))),
      .val ((NN (val xs / val ys)) w.heap.size),
      .val ((ZN (X)) w.heap.size),
      .new (.box 24 (Is (.agg #[.bool false, .slice none 0 0]))),
      .put (.inr 7) (.box 24 ((ZN (X)) w.heap.size))] [.inr 0, .inr 1, .inr 2, .inr 3, .inl 7] [] follows S2 rfl (by kernel_rfl) ?_ ?_
  · refine ⟨⟨⟨⟨⟨⟨⟨⟨⟨trivial, ?_⟩, ?_⟩, ?_⟩, ?_⟩, ?_⟩, ?_⟩, ?_⟩, ?_⟩, ?_⟩
    · exact owe_part rfl (wants_all rfl) rfl (k := 0) rfl (by kernel_rfl) rfl (fun ρ w b h => part_int0 ρ _ _ w b 0 h)
    · exact owe_pload rfl (wants_all rfl) rfl (opnd_op 0 20 (by kernel_rfl) rfl) (k := 0) rfl (by kernel_rfl) rfl (fun ρ w b u h1 h2 h3 => pload_neg zx_neg ρ _ _ w b u h1 h2 h3)
    · exact owe_part rfl (wants_all rfl) rfl (k := 1) rfl (by kernel_rfl) rfl (fun ρ w b h => part_int0 ρ _ _ w b 0 h)
    · exact owe_pload rfl (wants_all rfl) rfl (opnd_op 2 22 (by kernel_rfl) rfl) (k := 1) rfl (by kernel_rfl) rfl (fun ρ w b u h1 h2 h3 => pload_neg zx_neg ρ _ _ w b u h1 h2 h3)
    · exact owe_bin rfl (wants_all rfl) rfl (opnd_op 1 21 (by kernel_rfl) rfl) (opnd_op 3 23 (by kernel_rfl) rfl) rfl (fun ρ w h1 h2 => by exact run_neq_bool ρ _ _ _ w _ _ h1 h2)
    · exact owe_move rfl (wants_all rfl) (Or.inl rfl) (opnd_slot 0 6 rfl (by kernel_rfl)) rfl
    · exact owe_call2 rfl (wants_all rfl) rfl (opnd_op 4 24 (by kernel_rfl) rfl) (opnd_op 5 25 (by kernel_rfl) rfl) (fresh_zn _) rfl (fun args w => by go_simp) (fun w u0 u1 h0 h1 => Gives.cast ((fun w u v h1 h2 => g_made (by omega) w u v h1 ((nn_nv dq) _ _ h2)) w u0 u1 h0 h1) (by rw [eX]))
    · exact owe_new rfl (wants_all rfl) rfl rfl (fun ρ w => alloc_int ρ _ w)
    · exact owe_put 7 rfl (wants_all rfl) rfl (by kernel_rfl) rfl (opnd_op 6 26 (by kernel_rfl) rfl) (stores_of strct_int shp_z0 shp_zn) rfl
  intro B3 a3 W3 S3
  replace S3 : Sta w 50 [(2, (.box 24 (Zx s p n c xs))), (3, (.box 24 (Zx t q m d ys))), (4, (.box 24 (Is (.agg #[.bool false, .slice none 0 0])))), (5, (.box 24 (Is (.agg #[.bool false, .slice none 0 0])))), (9, (.box 24 ((ZN (X)) w.heap.size)))] [] B3 a3 W3 := S3
  refine wp_stmt_seq [.val (Zx s p n c xs),
      .val ((ZN (X)) w.heap.size),
      .val (Zx t q m d ys),
      .val ((ZN (X * B)) w.heap.size),
      .val ((ZN (R)) w.heap.size),
      .new (.box 24 (Is (.agg #[.bool false, .slice none 0 0]))),
      .put (.inr 5) (.box 24 ((ZN (R)) w.heap.size))] [.inr 0, .inr 1, .inr 2, .inr 3, .inr 4, .inl 5] [] follows S3 rfl (by kernel_rfl) ?_ ?_
  · refine ⟨⟨⟨⟨⟨⟨⟨trivial, ?_⟩, ?_⟩, ?_⟩, ?_⟩, ?_⟩, ?_⟩, ?_⟩
    · exact owe_load rfl (wants_all rfl) rfl (k := 0) rfl (by kernel_rfl) (loads_of strct_int shp_zx) rfl
    · exact owe_load rfl (wants_all rfl) rfl (k := 4) rfl (by kernel_rfl) (loads_of strct_int shp_zn) rfl
    · exact owe_load rfl (wants_all rfl) rfl (k := 1) rfl (by kernel_rfl) (loads_of strct_int shp_zx) rfl
    · exact owe_call2 rfl (wants_all rfl) rfl (opnd_op 1 28 (by kernel_rfl) rfl) (opnd_op 2 29 (by kernel_rfl) rfl) (fresh_zn _) rfl (fun args w => by go_simp) (fun w u v h1 h2 => g_rmul (by omega) w u v ((zn_zv dX) _ _ h1) ((zx_zv' eB (Nat.le_refl _)) _ _ h2))
    · exact owe_call2 rfl (wants_all rfl) rfl (opnd_op 0 27 (by kernel_rfl) rfl) (opnd_op 3 30 (by kernel_rfl) rfl) (fresh_zn _) rfl (fun args w => by go_simp) (fun w u0 u1 h0 h1 => Gives.cast ((fun w u v h1 h2 => g_rsub (by omega) (by omega) w u v ((zx_zv' eA (Nat.le_refl _)) _ _ h1) ((zn_zv dXB) _ _ h2)) w u0 u1 h0 h1) (by rw [eR]))
    · exact owe_new rfl (wants_all rfl) rfl rfl (fun ρ w => alloc_int ρ _ w)
    · exact owe_put 5 rfl (wants_all rfl) rfl (by kernel_rfl) rfl (opnd_op 4 31 (by kernel_rfl) rfl) (stores_of strct_int shp_z0 shp_zn) rfl
  intro B4 a4 W4 S4
  replace S4 : Sta w 50 [(2, (.box 24 (Zx s p n c xs))), (3, (.box 24 (Zx t q m d ys))), (4, (.box 24 (Is (.agg #[.bool false, .slice none 0 0])))), (5, (.box 24 (Is (.agg #[.bool false, .slice none 0 0])))), (9, (.box 24 ((ZN (X)) w.heap.size))), (10, (.box 24 ((ZN (R)) w.heap.size)))] [] B4 a4 W4 := S4
  refine wp_seq ?_
  refine wp_stmt_seq [.val ((ZN (R)) w.heap.size),
      .val (Is (.int .i64 (R).sign)),
      .val (Is (.bool false)),
      .val (Is (.bool false)),
      .off,
      .off,
      .off,
      .off,
      .off,
      .val (Is (.bool false))] [.inr 0, .inr 1, .inr 2, .inr 3, .inr 4, .inr 5] [.inl 9] follows S4 rfl (by kernel_rfl) ?_ ?_
  · refine ⟨⟨⟨⟨⟨⟨⟨⟨⟨⟨trivial, ?_⟩, ?_⟩, ?_⟩, ?_⟩, ?_⟩, ?_⟩, ?_⟩, ?_⟩, ?_⟩, ?_⟩
    · exact owe_load rfl (wants_all rfl) rfl (k := 5) rfl (by kernel_rfl) (loads_of strct_int shp_zn) rfl
    · exact owe_call1 rfl (wants_all rfl) rfl (opnd_op 0 32 (by kernel_rfl) rfl) (fresh_is _) rfl (fun args w => by go_simp) (fun w u h1 => g_rsign (by omega) w u ((zn_zv dR) _ _ h1))
    · exact owe_bin rfl (wants_all rfl) rfl (opnd_op 1 33 (by kernel_rfl) rfl) (opnd_const _) rfl (fun ρ w h1 h2 => by exact run_neq_int_f ρ _ _ _ w _ _ h0 h1 h2)
    · exact owe_move rfl (wants_all rfl) (Or.inl rfl) (opnd_op 2 34 (by kernel_rfl) rfl) rfl
    · exact owe_off 3 35 rfl rfl rfl (by kernel_rfl) rfl (by decide)
    · exact owe_off 3 35 rfl rfl rfl (by kernel_rfl) rfl (by decide)
    · exact owe_off 3 35 rfl rfl rfl (by kernel_rfl) rfl (by decide)
    · exact owe_off 3 35 rfl rfl rfl (by kernel_rfl) rfl (by decide)
    · exact owe_off 3 35 rfl rfl rfl (by kernel_rfl) rfl (by decide)
    · exact owe_pick rfl (wants_all rfl) rfl (opnd_op 3 35 (by kernel_rfl) rfl) (fun h => nomatch h) (fun _ => (opnd_const _)) rfl
  intro B5 a5 W5 S5
  replace S5 : Sta w 50 [(2, (.box 24 (Zx s p n c xs))), (3, (.box 24 (Zx t q m d ys))), (4, (.box 24 (Is (.agg #[.bool false, .slice none 0 0])))), (5, (.box 24 (Is (.agg #[.bool false, .slice none 0 0])))), (9, (.box 24 ((ZN (X)) w.heap.size))), (10, (.box 24 ((ZN (R)) w.heap.size)))] [(41, (Is (.bool false)))] B5 a5 W5 := S5
  refine wp_cond_false (S5.bool 0 41 rfl) ?_
  refine wp_skip ?_
  refine thenN ?_
  refine wp_stmt_seq [.val ((ZN (X)) w.heap.size),
      .val ((ZN (R)) w.heap.size),
      .put (.inl 4) (.box 24 ((ZN (X)) w.heap.size)),
      .put (.inl 5) (.box 24 ((ZN (R)) w.heap.size))] [.inr 0, .inr 1, .inr 2, .inr 3, .inr 4, .inr 5] [.inr 0] follows S5 rfl (by kernel_rfl) ?_ ?_
  · refine ⟨⟨⟨⟨trivial, ?_⟩, ?_⟩, ?_⟩, ?_⟩
    · exact owe_load rfl (wants_all rfl) rfl (k := 4) rfl (by kernel_rfl) (loads_of strct_int shp_zn) rfl
    · exact owe_load rfl (wants_all rfl) rfl (k := 5) rfl (by kernel_rfl) (loads_of strct_int shp_zn) rfl
    · exact owe_set rfl (wants_all rfl) rfl (k := 2) rfl (by kernel_rfl) (opnd_op 0 48 (by kernel_rfl) rfl) (stores_of strct_int shp_z0 shp_zn) rfl
    · exact owe_set rfl (wants_all rfl) rfl (k := 3) rfl (by kernel_rfl) (opnd_op 1 49 (by kernel_rfl) rfl) (stores_of strct_int shp_z0 shp_zn) rfl
  intro B6 a6 W6 S6
  replace S6 : Sta w 50 [(2, (.box 24 (Zx s p n c xs))), (3, (.box 24 (Zx t q m d ys))), (4, (.box 24 ((ZN (X)) w.heap.size))), (5, (.box 24 ((ZN (R)) w.heap.size))), (9, (.box 24 ((ZN (X)) w.heap.size))), (10, (.box 24 ((ZN (R)) w.heap.size)))] [(41, (Is (.bool false)))] B6 a6 W6 := S6
  refine wp_ret ?_
  exact end_two S6 rfl (res_cell S6 2 4 rfl strct_int shp_zn) (res_cell S6 3 5 rfl strct_int shp_zn)

set_option maxHeartbeats 400000 in
theorem rfloor_w2 (w : World) (s t : Bool) (p q : Option Addr) (n c m d : Nat) (xs ys : List Nat) (h : Sl w p n c xs) (h' : Sl w q m d ys) (A B X R : Int) (eA : sg s (val xs) = A) (eB : sg t (val ys) = B) (eX : sg (s != t) (val xs / val ys) = X) (eR : A - X * B = R) (dR : (digs R.natAbs).length ≤ m) (hy : val ys ≠ 0) (hs : n + m + 1 ≤ 35184372088831) (h0 : R.sign ≠ 0) (hS : R.sign = B.sign) :
    Calls Tryd.prog 23 #[.agg #[.bool s, .slice p n c], .agg #[.bool t, .slice q m d]] w (Gives (TWO (ZN (X)) (ZN (R))) w) := by
  have dA : (digs A.natAbs).length ≤ n := by rw [← eA]; exact sg_dl h
  have dB : (digs B.natAbs).length ≤ m := by rw [← eB]; exact sg_dl h'
  have dX : (digs X.natAbs).length ≤ n := by rw [← eX, sg_abs]; exact Nat.le_trans (digs_length_mono (Nat.div_le_self _ _)) h.dl
  have dXB := dl_mul dX dB
  have dq : (digs (val xs / val ys)).length ≤ n := Nat.le_trans (digs_length_mono (Nat.div_le_self _ _)) h.dl
  refine calls_sta (sl := [(0, (Zx s p n c xs)), (1, (Zx t q m d ys))]) Tryd.func23 rfl Tryd.ntmps23 (by simp) (args_cons rfl (zx_has h) (args_cons rfl (zx_has h') args_nil)) ?_
  intro a0 S0
  refine wp_stmt_seq [.new (.box 24 (Zx s p n c xs)),
      .new (.box 24 (Zx t q m d ys)),
      .new (.box 24 (Is (.agg #[.bool false, .slice none 0 0]))),
      .new (.box 24 (Is (.agg #[.bool false, .slice none 0 0])))] [.inl 0, .inl 1, .inl 2, .inl 3] [] follows S0 rfl (by kernel_rfl) ?_ ?_
  · refine ⟨⟨⟨⟨trivial, ?_⟩, ?_⟩, ?_⟩, ?_⟩
    · exact owe_box rfl (wants_all rfl) rfl (opnd_slot 0 0 rfl (by kernel_rfl)) rfl (fun ρ w h => box_int shp_zx ρ _ _ w h)
    · exact owe_box rfl (wants_all rfl) rfl (opnd_slot 1 1 rfl (by kernel_rfl)) rfl (fun ρ w h => box_int shp_zx ρ _ _ w h)
    · exact owe_new rfl (wants_all rfl) rfl rfl (fun ρ w => alloc_int ρ _ w)
    · exact owe_new rfl (wants_all rfl) rfl rfl (fun ρ w => alloc_int ρ _ w)
  intro B1 a1 W1 S1
  replace S1 : Sta w 50 [(2, (.box 24 (Zx s p n c xs))), (3, (.box 24 (Zx t q m d ys))), (4, (.box 24 (Is (.agg #[.bool false, .slice none 0 0])))), (5, (.box 24 (Is (.agg #[.bool false, .slice none 0 0]))))] [] B1 a1 W1 := S1
  refine wp_stmt_seq [.val (Part a1 2 1),
      .val (Nx p n c xs),
      .val (Part a1 3 1),
      .val (Nx q m d ys),
      .val ((THREE (NN (val xs / val ys)) (NN (val xs % val ys)) (IS (.int .i64 0))) w.heap.size),
      .val ((THREE (NN (val xs / val ys)) (NN (val xs % val ys)) (IS (.int .i64 0))) w.heap.size),
      .val ((NN (val xs / val ys)) w.heap.size),
      .val ((NN (val xs % val ys)) w.heap.size),
      .val (Is (.int .i64 0)),
      .val ((NN (val xs / val ys)) w.heap.size),
      .val ((NN (val xs % val ys)) w.heap.size),
      .val (Is (.int .i64 0))] [.inr 0, .inr 1, .inr 2, .inr 3] [.inl 9] follows S1 rfl (by kernel_rfl) ?_ ?_
  · refine ⟨⟨⟨⟨⟨⟨⟨⟨⟨⟨⟨⟨trivial, ?_⟩, ?_⟩, ?_⟩, ?_⟩, ?_⟩, ?_⟩, ?_⟩, ?_⟩, ?_⟩, ?_⟩, ?_⟩, ?_⟩
    · exact owe_part rfl (wants_all rfl) rfl (k := 0) rfl (by kernel_rfl) rfl (fun ρ w b h => part_int1 ρ _ _ w b 0 h)
    · exact owe_pload rfl (wants_all rfl) rfl (opnd_op 0 12 (by kernel_rfl) rfl) (k := 0) rfl (by kernel_rfl) rfl (fun ρ w b u h1 h2 h3 => pload_mag zx_mag ρ _ _ w b u h1 h2 h3)
    · exact owe_part rfl (wants_all rfl) rfl (k := 1) rfl (by kernel_rfl) rfl (fun ρ w b h => part_int1 ρ _ _ w b 0 h)
    · exact owe_pload rfl (wants_all rfl) rfl (opnd_op 2 14 (by kernel_rfl) rfl) (k := 1) rfl (by kernel_rfl) rfl (fun ρ w b u h1 h2 h3 => pload_mag zx_mag ρ _ _ w b u h1 h2 h3)
    · exact owe_call2 rfl (wants_all rfl) rfl (opnd_op 1 13 (by kernel_rfl) rfl) (opnd_op 3 15 (by kernel_rfl) rfl) (fresh_three (fresh_nn _) (fresh_nn _) (fresh_is _)) rfl (fun args w => by go_simp) (fun w u v h1 h2 => g_rdiv hy (by omega) (by omega) w u v ((nx_nv (Nat.le_refl _)) _ _ h1) ((nx_nv (Nat.le_refl _)) _ _ h2))
    · exact owe_move rfl (wants_all rfl) (Or.inl rfl) (opnd_op 4 16 (by kernel_rfl) rfl) rfl
    · exact owe_ext3 rfl (wants_all rfl) rfl (opnd_op 5 11 (by kernel_rfl) rfl) (Or.inl ⟨rfl, rfl⟩) rfl
    · exact owe_ext3 rfl (wants_all rfl) rfl (opnd_op 5 11 (by kernel_rfl) rfl) (Or.inr (Or.inl ⟨rfl, rfl⟩)) rfl
    · exact owe_ext3 rfl (wants_all rfl) rfl (opnd_op 5 11 (by kernel_rfl) rfl) (Or.inr (Or.inr ⟨rfl, rfl⟩)) rfl
    · exact owe_move rfl (wants_all rfl) (Or.inr rfl) (opnd_op 6 17 (by kernel_rfl) rfl) rfl
    · exact owe_move rfl (wants_all rfl) (Or.inr rfl) (opnd_op 7 18 (by kernel_rfl) rfl) rfl
    · exact owe_move rfl (wants_all rfl) (Or.inr rfl) (opnd_op 8 19 (by kernel_rfl) rfl) rfl
  intro B2 a2 W2 S2
  replace S2 : Sta w 50 [(2, (.box 24 (Zx s p n c xs))), (3, (.box 24 (Zx t q m d ys))), (4, (.box 24 (Is (.agg #[.bool false, .slice none 0 0])))), (5, (.box 24 (Is (.agg #[.bool false, .slice none 0 0]))))] [(6, ((NN (val xs / val ys)) w.heap.size))] B2 a2 W2 := S2
  refine wp_stmt_seq [.val (Part a2 2 0),
      .val (Is (.bool s)),
      .val (Part a2 3 0),
      .val (Is (.bool t)),
      .val (Is (.bool (s != t))),
      .val ((NN (val xs / val ys)) w.heap.size),
      .val ((ZN (X)) w.heap.size),
      .new (.box 24 (Is (.agg #[.bool false, .slice none 0 0]))),
      .put (.inr 7) (.box 24 ((ZN (X)) w.heap.size))] [.inr 0, .inr 1, .inr 2, .inr 3, .inl 7] [] follows S2 rfl (by kernel_rfl) ?_ ?_
  · refine ⟨⟨⟨⟨⟨⟨⟨⟨⟨trivial, ?_⟩, ?_⟩, ?_⟩, ?_⟩, ?_⟩, ?_⟩, ?_⟩, ?_⟩, ?_⟩
    · exact owe_part rfl (wants_all rfl) rfl (k := 0) rfl (by kernel_rfl) rfl (fun ρ w b h => part_int0 ρ _ _ w b 0 h)
    · exact owe_pload rfl (wants_all rfl) rfl (opnd_op 0 20 (by kernel_rfl) rfl) (k := 0) rfl (by kernel_rfl) rfl (fun ρ w b u h1 h2 h3 => pload_neg zx_neg ρ _ _ w b u h1 h2 h3)
    · exact owe_part rfl (wants_all rfl) rfl (k := 1) rfl (by kernel_rfl) rfl (fun ρ w b h => part_int0 ρ _ _ w b 0 h)
    · exact owe_pload rfl (wants_all rfl) rfl (opnd_op 2 22 (by kernel_rfl) rfl) (k := 1) rfl (by kernel_rfl) rfl (fun ρ w b u h1 h2 h3 => pload_neg zx_neg ρ _ _ w b u h1 h2 h3)
    · exact owe_bin rfl (wants_all rfl) rfl (opnd_op 1 21 (by kernel_rfl) rfl) (opnd_op 3 23 (by kernel_rfl) rfl) rfl (fun ρ w h1 h2 => by exact run_neq_bool ρ _ _ _ w _ _ h1 h2)
    · exact owe_move rfl (wants_all rfl) (Or.inl rfl) (opnd_slot 0 6 rfl (by kernel_rfl)) rfl
    · exact owe_call2 rfl (wants_all rfl) rfl (opnd_op 4 24 (by kernel_rfl) rfl) (opnd_op 5 25 (by kernel_rfl) rfl) (fresh_zn _) rfl (fun args w => by go_simp) (fun w u0 u1 h0 h1 => Gives.cast ((fun w u v h1 h2 => g_made (by omega) w u v h1 ((nn_nv dq) _ _ h2)) w u0 u1 h0 h1) (by rw [eX]))
    · exact owe_new rfl (wants_all rfl) rfl rfl (fun ρ w => alloc_int ρ _ w)
    · exact owe_put 7 rfl (wants_all rfl) rfl (by kernel_rfl) rfl (opnd_op 6 26 (by kernel_rfl) rfl) (stores_of strct_int shp_z0 shp_zn) rfl
  intro B3 a3 W3 S3
  replace S3 : Sta w 50 [(2, (.box 24 (Zx s p n c xs))), (3, (.box 24 (Zx t q m d ys))), (4, (.box 24 (Is (.agg #[.bool false, .slice none 0 0])))), (5, (.box 24 (Is (.agg #[.bool false, .slice none 0 0])))), (9, (.box 24 ((ZN (X)) w.heap.size)))] [] B3 a3 W3 := S3
  refine wp_stmt_seq [.val (Zx s p n c xs),
      .val ((ZN (X)) w.heap.size),
      .val (Zx t q m d ys),
      .val ((ZN (X * B)) w.heap.size),
      .val ((ZN (R)) w.heap.size),
      .new (.box 24 (Is (.agg #[.bool false, .slice none 0 0]))),
      .put (.inr 5) (.box 24 ((ZN (R)) w.heap.size))] [.inr 0, .inr 1, .inr 2, .inr 3, .inr 4, .inl 5] [] follows S3 rfl (by kernel_rfl) ?_ ?_
  · refine ⟨⟨⟨⟨⟨⟨⟨trivial, ?_⟩, ?_⟩, ?_⟩, ?_⟩, ?_⟩, ?_⟩, ?_⟩
    · exact owe_load rfl (wants_all rfl) rfl (k := 0) rfl (by kernel_rfl) (loads_of strct_int shp_zx) rfl
    · exact owe_load rfl (wants_all rfl) rfl (k := 4) rfl (by kernel_rfl) (loads_of strct_int shp_zn) rfl
    · exact owe_load rfl (wants_all rfl) rfl (k := 1) rfl (by kernel_rfl) (loads_of strct_int shp_zx) rfl
    · exact owe_call2 rfl (wants_all rfl) rfl (opnd_op 1 28 (by kernel_rfl) rfl) (opnd_op 2 29 (by kernel_rfl) rfl) (fresh_zn _) rfl (fun args w => by go_simp) (fun w u v h1 h2 => g_rmul (by omega) w u v ((zn_zv dX) _ _ h1) ((zx_zv' eB (Nat.le_refl _)) _ _ h2))
    · exact owe_call2 rfl (wants_all rfl) rfl (opnd_op 0 27 (by kernel_rfl) rfl) (opnd_op 3 30 (by kernel_rfl) rfl) (fresh_zn _) rfl (fun args w => by go_simp) (fun w u0 u1 h0 h1 => Gives.cast ((fun w u v h1 h2 => g_rsub (by omega) (by omega) w u v ((zx_zv' eA (Nat.le_refl _)) _ _ h1) ((zn_zv dXB) _ _ h2)) w u0 u1 h0 h1) (by rw [eR]))
    · exact owe_new rfl (wants_all rfl) rfl rfl (fun ρ w => alloc_int ρ _ w)
    · exact owe_put 5 rfl (wants_all rfl) rfl (by kernel_rfl) rfl (opnd_op 4 31 (by kernel_rfl) rfl) (stores_of strct_int shp_z0 shp_zn) rfl
  intro B4 a4 W4 S4
  replace S4 : Sta w 50 [(2, (.box 24 (Zx s p n c xs))), (3, (.box 24 (Zx t q m d ys))), (4, (.box 24 (Is (.agg #[.bool false, .slice none 0 0])))), (5, (.box 24 (Is (.agg #[.bool false, .slice none 0 0])))), (9, (.box 24 ((ZN (X)) w.heap.size))), (10, (.box 24 ((ZN (R)) w.heap.size)))] [] B4 a4 W4 := S4
  refine wp_seq ?_
  refine wp_stmt_seq [.val ((ZN (R)) w.heap.size),
      .val (Is (.int .i64 (R).sign)),
      .val (Is (.bool true)),
      .val (Is (.bool true)),
      .val ((ZN (R)) w.heap.size),
      .val (Is (.int .i64 (R).sign)),
      .val (Zx t q m d ys),
      .val (Is (.int .i64 (B).sign)),
      .val (Is (.bool false)),
      .val (Is (.bool false))] [.inr 0, .inr 1, .inr 2, .inr 3, .inr 4, .inr 5] [.inl 9] follows S4 rfl (by kernel_rfl) ?_ ?_
  · refine ⟨⟨⟨⟨⟨⟨⟨⟨⟨⟨trivial, ?_⟩, ?_⟩, ?_⟩, ?_⟩, ?_⟩, ?_⟩, ?_⟩, ?_⟩, ?_⟩, ?_⟩
    · exact owe_load rfl (wants_all rfl) rfl (k := 5) rfl (by kernel_rfl) (loads_of strct_int shp_zn) rfl
    · exact owe_call1 rfl (wants_all rfl) rfl (opnd_op 0 32 (by kernel_rfl) rfl) (fresh_is _) rfl (fun args w => by go_simp) (fun w u h1 => g_rsign (by omega) w u ((zn_zv dR) _ _ h1))
    · exact owe_bin rfl (wants_all rfl) rfl (opnd_op 1 33 (by kernel_rfl) rfl) (opnd_const _) rfl (fun ρ w h1 h2 => by exact run_neq_int_t ρ _ _ _ w _ _ h0 h1 h2)
    · exact owe_move rfl (wants_all rfl) (Or.inl rfl) (opnd_op 2 34 (by kernel_rfl) rfl) rfl
    · exact owe_load rfl (wants_if 3 35 rfl (by kernel_rfl) rfl) rfl (k := 5) rfl (by kernel_rfl) (loads_of strct_int shp_zn) rfl
    · exact owe_call1 rfl (wants_if 3 35 rfl (by kernel_rfl) rfl) rfl (opnd_op 4 36 (by kernel_rfl) rfl) (fresh_is _) rfl (fun args w => by go_simp) (fun w u h1 => g_rsign (by omega) w u ((zn_zv dR) _ _ h1))
    · exact owe_load rfl (wants_if 3 35 rfl (by kernel_rfl) rfl) rfl (k := 1) rfl (by kernel_rfl) (loads_of strct_int shp_zx) rfl
    · exact owe_call1 rfl (wants_if 3 35 rfl (by kernel_rfl) rfl) rfl (opnd_op 6 38 (by kernel_rfl) rfl) (fresh_is _) rfl (fun args w => by go_simp) (fun w u h1 => g_rsign (by omega) w u ((zx_zv' eB (Nat.le_refl _)) _ _ h1))
    · exact owe_bin rfl (wants_if 3 35 rfl (by kernel_rfl) rfl) rfl (opnd_op 5 37 (by kernel_rfl) rfl) (opnd_op 7 39 (by kernel_rfl) rfl) rfl (fun ρ w h1 h2 => by exact run_neq_int_f ρ _ _ _ w _ _ hS h1 h2)
    · exact owe_pick rfl (wants_all rfl) rfl (opnd_op 3 35 (by kernel_rfl) rfl) (fun _ => (opnd_op 8 40 (by kernel_rfl) rfl)) (fun h => nomatch h) rfl
  intro B5 a5 W5 S5
  replace S5 : Sta w 50 [(2, (.box 24 (Zx s p n c xs))), (3, (.box 24 (Zx t q m d ys))), (4, (.box 24 (Is (.agg #[.bool false, .slice none 0 0])))), (5, (.box 24 (Is (.agg #[.bool false, .slice none 0 0])))), (9, (.box 24 ((ZN (X)) w.heap.size))), (10, (.box 24 ((ZN (R)) w.heap.size)))] [(41, (Is (.bool false)))] B5 a5 W5 := S5
  refine wp_cond_false (S5.bool 0 41 rfl) ?_
  refine wp_skip ?_
  refine thenN ?_
  refine wp_stmt_seq [.val ((ZN (X)) w.heap.size),
      .val ((ZN (R)) w.heap.size),
      .put (.inl 4) (.box 24 ((ZN (X)) w.heap.size)),
      .put (.inl 5) (.box 24 ((ZN (R)) w.heap.size))] [.inr 0, .inr 1, .inr 2, .inr 3, .inr 4, .inr 5] [.inr 0] follows S5 rfl (by kernel_rfl) ?_ ?_
  · refine ⟨⟨⟨⟨trivial, ?_⟩, ?_⟩, ?_⟩, ?_⟩
    · exact owe_load rfl (wants_all rfl) rfl (k := 4) rfl (by kernel_rfl) (loads_of strct_int shp_zn) rfl
    · exact owe_load rfl (wants_all rfl) rfl (k := 5) rfl (by kernel_rfl) (loads_of strct_int shp_zn) rfl
    · exact owe_set rfl (wants_all rfl) rfl (k := 2) rfl (by kernel_rfl) (opnd_op 0 48 (by kernel_rfl) rfl) (stores_of strct_int shp_z0 shp_zn) rfl
    · exact owe_set rfl (wants_all rfl) rfl (k := 3) rfl (by kernel_rfl) (opnd_op 1 49 (by kernel_rfl) rfl) (stores_of strct_int shp_z0 shp_zn) rfl
  intro B6 a6 W6 S6
  replace S6 : Sta w 50 [(2, (.box 24 (Zx s p n c xs))), (3, (.box 24 (Zx t q m d ys))), (4, (.box 24 ((ZN (X)) w.heap.size))), (5, (.box 24 ((ZN (R)) w.heap.size))), (9, (.box 24 ((ZN (X)) w.heap.size))), (10, (.box 24 ((ZN (R)) w.heap.size)))] [(41, (Is (.bool false)))] B6 a6 W6 := S6
  refine wp_ret ?_
  exact end_two S6 rfl (res_cell S6 2 4 rfl strct_int shp_zn) (res_cell S6 3 5 rfl strct_int shp_zn)

set_option maxHeartbeats 400000 in
theorem rfloor_w3 (w : World) (s t : Bool) (p q : Option Addr) (n c m d : Nat) (xs ys : List Nat) (h : Sl w p n c xs) (h' : Sl w q m d ys) (A B X R : Int) (eA : sg s (val xs) = A) (eB : sg t (val ys) = B) (eX : sg (s != t) (val xs / val ys) = X) (eR : A - X * B = R) (dR : (digs R.natAbs).length ≤ m) (hy : val ys ≠ 0) (hs : n + m + 1 ≤ 35184372088831) (h0 : R.sign ≠ 0) (hS : R.sign ≠ B.sign) :
    Calls Tryd.prog 23 #[.agg #[.bool s, .slice p n c], .agg #[.bool t, .slice q m d]] w (Gives (TWO (ZN (X - 1)) (ZN (R + B))) w) := by
  have dA : (digs A.natAbs).length ≤ n := by rw [← eA]; exact sg_dl h
  have dB : (digs B.natAbs).length ≤ m := by rw [← eB]; exact sg_dl h'
  have dX : (digs X.natAbs).length ≤ n := by rw [← eX, sg_abs]; exact Nat.le_trans (digs_length_mono (Nat.div_le_self _ _)) h.dl
  have dXB := dl_mul dX dB
  have dq : (digs (val xs / val ys)).length ≤ n := Nat.le_trans (digs_length_mono (Nat.div_le_self _ _)) h.dl
  have d1 : (digs (1 : Int).natAbs).length ≤ 1 := dl_small (by decide)
  refine calls_sta (sl := [(0, (Zx s p n c xs)), (1, (Zx t q m d ys))]) Tryd.func23 rfl Tryd.ntmps23 (by simp) (args_cons rfl (zx_has h) (args_cons rfl (zx_has h') args_nil)) ?_
  intro a0 S0
  refine wp_stmt_seq [.new (.box 24 (Zx s p n c xs)),
      .new (.box 24 (Zx t q m d ys)),
      .new (.box 24 (Is (.agg #[.bool false, .slice none 0 0]))),
      .new (.box 24 (Is (.agg #[.bool false, .slice none 0 0])))] [.inl 0, .inl 1, .inl 2, .inl 3] [] follows S0 rfl (by kernel_rfl) ?_ ?_
  · refine ⟨⟨⟨⟨trivial, ?_⟩, ?_⟩, ?_⟩, ?_⟩
    · exact owe_box rfl (wants_all rfl) rfl (opnd_slot 0 0 rfl (by kernel_rfl)) rfl (fun ρ w h => box_int shp_zx ρ _ _ w h)
    · exact owe_box rfl (wants_all rfl) rfl (opnd_slot 1 1 rfl (by kernel_rfl)) rfl (fun ρ w h => box_int shp_zx ρ _ _ w h)
    · exact owe_new rfl (wants_all rfl) rfl rfl (fun ρ w => alloc_int ρ _ w)
    · exact owe_new rfl (wants_all rfl) rfl rfl (fun ρ w => alloc_int ρ _ w)
  intro B1 a1 W1 S1
  replace S1 : Sta w 50 [(2, (.box 24 (Zx s p n c xs))), (3, (.box 24 (Zx t q m d ys))), (4, (.box 24 (Is (.agg #[.bool false, .slice none 0 0])))), (5, (.box 24 (Is (.agg #[.bool false, .slice none 0 0]))))] [] B1 a1 W1 := S1
  refine wp_stmt_seq [.val (Part a1 2 1),
      .val (Nx p n c xs),
      .val (Part a1 3 1),
      .val (Nx q m d ys),
      .val ((THREE (NN (val xs / val ys)) (NN (val xs % val ys)) (IS (.int .i64 0))) w.heap.size),
      .val ((THREE (NN (val xs / val ys)) (NN (val xs % val ys)) (IS (.int .i64 0))) w.heap.size),
      .val ((NN (val xs / val ys)) w.heap.size),
      .val ((NN (val xs % val ys)) w.heap.size),
      .val (Is (.int .i64 0)),
      .val ((NN (val xs / val ys)) w.heap.size),
      .val ((NN (val xs % val ys)) w.heap.size),
      .val (Is (.int .i64 0))] [.inr 0, .inr 1, .inr 2, .inr 3] [.inl 9] follows S1 rfl (by kernel_rfl) ?_ ?_
  · refine ⟨⟨⟨⟨⟨⟨⟨⟨⟨⟨⟨⟨trivial, ?_⟩, ?_⟩, ?_⟩, ?_⟩, ?_⟩, ?_⟩, ?_⟩, ?_⟩, ?_⟩, ?_⟩, ?_⟩, ?_⟩
    · exact owe_part rfl (wants_all rfl) rfl (k := 0) rfl (by kernel_rfl) rfl (fun ρ w b h => part_int1 ρ _ _ w b 0 h)
    · exact owe_pload rfl (wants_all rfl) rfl (opnd_op 0 12 (by kernel_rfl) rfl) (k := 0) rfl (by kernel_rfl) rfl (fun ρ w b u h1 h2 h3 => pload_mag zx_mag ρ _ _ w b u h1 h2 h3)
    · exact owe_part rfl (wants_all rfl) rfl (k := 1) rfl (by kernel_rfl) rfl (fun ρ w b h => part_int1 ρ _ _ w b 0 h)
    · exact owe_pload rfl (wants_all rfl) rfl (opnd_op 2 14 (by kernel_rfl) rfl) (k := 1) rfl (by kernel_rfl) rfl (fun ρ w b u h1 h2 h3 => pload_mag zx_mag ρ _ _ w b u h1 h2 h3)
    · exact owe_call2 rfl (wants_all rfl) rfl (opnd_op 1 13 (by kernel_rfl) rfl) (opnd_op 3 15 (by kernel_rfl) rfl) (fresh_three (fresh_nn _) (fresh_nn _) (fresh_is _)) rfl (fun args w => by go_simp) (fun w u v h1 h2 => g_rdiv hy (by omega) (by omega) w u v ((nx_nv (Nat.le_refl _)) _ _ h1) ((nx_nv (Nat.le_refl _)) _ _ h2))
    · exact owe_move rfl (wants_all rfl) (Or.inl rfl) (opnd_op 4 16 (by kernel_rfl) rfl) rfl
    · exact owe_ext3 rfl (wants_all rfl) rfl (opnd_op 5 11 (by kernel_rfl) rfl) (Or.inl ⟨rfl, rfl⟩) rfl
    · exact owe_ext3 rfl (wants_all rfl) rfl (opnd_op 5 11 (by kernel_rfl) rfl) (Or.inr (Or.inl ⟨rfl, rfl⟩)) rfl
    · exact owe_ext3 rfl (wants_all rfl) rfl (opnd_op 5 11 (by kernel_rfl) rfl) (Or.inr (Or.inr ⟨rfl, rfl⟩)) rfl
    · exact owe_move rfl (wants_all rfl) (Or.inr rfl) (opnd_op 6 17 (by kernel_rfl) rfl) rfl
    · exact owe_move rfl (wants_all rfl) (Or.inr rfl) (opnd_op 7 18 (by kernel_rfl) rfl) rfl
    · exact owe_move rfl (wants_all rfl) (Or.inr rfl) (opnd_op 8 19 (by kernel_rfl) rfl) rfl
  intro B2 a2 W2 S2
  replace S2 : Sta w 50 [(2, (.box 24 (Zx s p n c xs))), (3, (.box 24 (Zx t q m d ys))), (4, (.box 24 (Is (.agg #[.bool false, .slice none 0 0])))), (5, (.box 24 (Is (.agg #[.bool false, .slice none 0 0]))))] [(6, ((NN (val xs / val ys)) w.heap.size))] B2 a2 W2 := S2
  refine wp_stmt_seq [.val (Part a2 2 0),
      .val (Is (.bool s)),
      .val (Part a2 3 0),
      .val (Is (.bool t)),
      .val (Is (.bool (s != t))),
      .val ((NN (val xs / val ys)) w.heap.size),
      .val ((ZN (X)) w.heap.size),
      .new (.box 24 (Is (.agg #[.bool false, .slice none 0 0]))),
      .put (.inr 7) (.box 24 ((ZN (X)) w.heap.size))] [.inr 0, .inr 1, .inr 2, .inr 3, .inl 7] [] follows S2 rfl (by kernel_rfl) ?_ ?_
  · refine ⟨⟨⟨⟨⟨⟨⟨⟨⟨trivial, ?_⟩, ?_⟩, ?_⟩, ?_⟩, ?_⟩, ?_⟩, ?_⟩, ?_⟩, ?_⟩
    · exact owe_part rfl (wants_all rfl) rfl (k := 0) rfl (by kernel_rfl) rfl (fun ρ w b h => part_int0 ρ _ _ w b 0 h)
    · exact owe_pload rfl (wants_all rfl) rfl (opnd_op 0 20 (by kernel_rfl) rfl) (k := 0) rfl (by kernel_rfl) rfl (fun ρ w b u h1 h2 h3 => pload_neg zx_neg ρ _ _ w b u h1 h2 h3)
    · exact owe_part rfl (wants_all rfl) rfl (k := 1) rfl (by kernel_rfl) rfl (fun ρ w b h => part_int0 ρ _ _ w b 0 h)
    · exact owe_pload rfl (wants_all rfl) rfl (opnd_op 2 22 (by kernel_rfl) rfl) (k := 1) rfl (by kernel_rfl) rfl (fun ρ w b u h1 h2 h3 => pload_neg zx_neg ρ _ _ w b u h1 h2 h3)
    · exact owe_bin rfl (wants_all rfl) rfl (opnd_op 1 21 (by kernel_rfl) rfl) (opnd_op 3 23 (by kernel_rfl) rfl) rfl (fun ρ w h1 h2 => by exact run_neq_bool ρ _ _ _ w _ _ h1 h2)
    · exact owe_move rfl (wants_all rfl) (Or.inl rfl) (opnd_slot 0 6 rfl (by kernel_rfl)) rfl
    · exact owe_call2 rfl (wants_all rfl) rfl (opnd_op 4 24 (by kernel_rfl) rfl) (opnd_op 5 25 (by kernel_rfl) rfl) (fresh_zn _) rfl (fun args w => by go_simp) (fun w u0 u1 h0 h1 => Gives.cast ((fun w u v h1 h2 => g_made (by omega) w u v h1 ((nn_nv dq) _ _ h2)) w u0 u1 h0 h1) (by rw [eX]))
    · exact owe_new rfl (wants_all rfl) rfl rfl (fun ρ w => alloc_int ρ _ w)
    · exact owe_put 7 rfl (wants_all rfl) rfl (by kernel_rfl) rfl (opnd_op 6 26 (by kernel_rfl) rfl) (stores_of strct_int shp_z0 shp_zn) rfl
  intro B3 a3 W3 S3
  replace S3 : Sta w 50 [(2, (.box 24 (Zx s p n c xs))), (3, (.box 24 (Zx t q m d ys))), (4, (.box 24 (Is (.agg #[.bool false, .slice none 0 0])))), (5, (.box 24 (Is (.agg #[.bool false, .slice none 0 0])))), (9, (.box 24 ((ZN (X)) w.heap.size)))] [] B3 a3 W3 := S3
  refine wp_stmt_seq [.val (Zx s p n c xs),
      .val ((ZN (X)) w.heap.size),
      .val (Zx t q m d ys),
      .val ((ZN (X * B)) w.heap.size),
      .val ((ZN (R)) w.heap.size),
      .new (.box 24 (Is (.agg #[.bool false, .slice none 0 0]))),
      .put (.inr 5) (.box 24 ((ZN (R)) w.heap.size))] [.inr 0, .inr 1, .inr 2, .inr 3, .inr 4, .inl 5] [] follows S3 rfl (by kernel_rfl) ?_ ?_
  · refine ⟨⟨⟨⟨⟨⟨⟨trivial, ?_⟩, ?_⟩, ?_⟩, ?_⟩, ?_⟩, ?_⟩, ?_⟩
    · exact owe_load rfl (wants_all rfl) rfl (k := 0) rfl (by kernel_rfl) (loads_of strct_int shp_zx) rfl
    · exact owe_load rfl (wants_all rfl) rfl (k := 4) rfl (by kernel_rfl) (loads_of strct_int shp_zn) rfl
    · exact owe_load rfl (wants_all rfl) rfl (k := 1) rfl (by kernel_rfl) (loads_of strct_int shp_zx) rfl
    · exact owe_call2 rfl (wants_all rfl) rfl (opnd_op 1 28 (by kernel_rfl) rfl) (opnd_op 2 29 (by kernel_rfl) rfl) (fresh_zn _) rfl (fun args w => by go_simp) (fun w u v h1 h2 => g_rmul (by omega) w u v ((zn_zv dX) _ _ h1) ((zx_zv' eB (Nat.le_refl _)) _ _ h2))
    · exact owe_call2 rfl (wants_all rfl) rfl (opnd_op 0 27 (by kernel_rfl) rfl) (opnd_op 3 30 (by kernel_rfl) rfl) (fresh_zn _) rfl (fun args w => by go_simp) (fun w u0 u1 h0 h1 => Gives.cast ((fun w u v h1 h2 => g_rsub (by omega) (by omega) w u v ((zx_zv' eA (Nat.le_refl _)) _ _ h1) ((zn_zv dXB) _ _ h2)) w u0 u1 h0 h1) (by rw [eR]))
    · exact owe_new rfl (wants_all rfl) rfl rfl (fun ρ w => alloc_int ρ _ w)
    · exact owe_put 5 rfl (wants_all rfl) rfl (by kernel_rfl) rfl (opnd_op 4 31 (by kernel_rfl) rfl) (stores_of strct_int shp_z0 shp_zn) rfl
  intro B4 a4 W4 S4
  replace S4 : Sta w 50 [(2, (.box 24 (Zx s p n c xs))), (3, (.box 24 (Zx t q m d ys))), (4, (.box 24 (Is (.agg #[.bool false, .slice none 0 0])))), (5, (.box 24 (Is (.agg #[.bool false, .slice none 0 0])))), (9, (.box 24 ((ZN (X)) w.heap.size))), (10, (.box 24 ((ZN (R)) w.heap.size)))] [] B4 a4 W4 := S4
  refine wp_seq ?_
  refine wp_stmt_seq [.val ((ZN (R)) w.heap.size),
      .val (Is (.int .i64 (R).sign)),
      .val (Is (.bool true)),
      .val (Is (.bool true)),
      .val ((ZN (R)) w.heap.size),
      .val (Is (.int .i64 (R).sign)),
      .val (Zx t q m d ys),
      .val (Is (.int .i64 (B).sign)),
      .val (Is (.bool true)),
      .val (Is (.bool true))] [.inr 0, .inr 1, .inr 2, .inr 3, .inr 4, .inr 5] [.inl 9] follows S4 rfl (by kernel_rfl) ?_ ?_
  · refine ⟨⟨⟨⟨⟨⟨⟨⟨⟨⟨trivial, ?_⟩, ?_⟩, ?_⟩, ?_⟩, ?_⟩, ?_⟩, ?_⟩, ?_⟩, ?_⟩, ?_⟩
    · exact owe_load rfl (wants_all rfl) rfl (k := 5) rfl (by kernel_rfl) (loads_of strct_int shp_zn) rfl
    · exact owe_call1 rfl (wants_all rfl) rfl (opnd_op 0 32 (by kernel_rfl) rfl) (fresh_is _) rfl (fun args w => by go_simp) (fun w u h1 => g_rsign (by omega) w u ((zn_zv dR) _ _ h1))
    · exact owe_bin rfl (wants_all rfl) rfl (opnd_op 1 33 (by kernel_rfl) rfl) (opnd_const _) rfl (fun ρ w h1 h2 => by exact run_neq_int_t ρ _ _ _ w _ _ h0 h1 h2)
    · exact owe_move rfl (wants_all rfl) (Or.inl rfl) (opnd_op 2 34 (by kernel_rfl) rfl) rfl
    · exact owe_load rfl (wants_if 3 35 rfl (by kernel_rfl) rfl) rfl (k := 5) rfl (by kernel_rfl) (loads_of strct_int shp_zn) rfl
    · exact owe_call1 rfl (wants_if 3 35 rfl (by kernel_rfl) rfl) rfl (opnd_op 4 36 (by kernel_rfl) rfl) (fresh_is _) rfl (fun args w => by go_simp) (fun w u h1 => g_rsign (by omega) w u ((zn_zv dR) _ _ h1))
    · exact owe_load rfl (wants_if 3 35 rfl (by kernel_rfl) rfl) rfl (k := 1) rfl (by kernel_rfl) (loads_of strct_int shp_zx) rfl
    · exact owe_call1 rfl (wants_if 3 35 rfl (by kernel_rfl) rfl) rfl (opnd_op 6 38 (by kernel_rfl) rfl) (fresh_is _) rfl (fun args w => by go_simp) (fun w u h1 => g_rsign (by omega) w u ((zx_zv' eB (Nat.le_refl _)) _ _ h1))
    · exact owe_bin rfl (wants_if 3 35 rfl (by kernel_rfl) rfl) rfl (opnd_op 5 37 (by kernel_rfl) rfl) (opnd_op 7 39 (by kernel_rfl) rfl) rfl (fun ρ w h1 h2 => by exact run_neq_int_t ρ _ _ _ w _ _ hS h1 h2)
    · exact owe_pick rfl (wants_all rfl) rfl (opnd_op 3 35 (by kernel_rfl) rfl) (fun _ => (opnd_op 8 40 (by kernel_rfl) rfl)) (fun h => nomatch h) rfl
  intro B5 a5 W5 S5
  replace S5 : Sta w 50 [(2, (.box 24 (Zx s p n c xs))), (3, (.box 24 (Zx t q m d ys))), (4, (.box 24 (Is (.agg #[.bool false, .slice none 0 0])))), (5, (.box 24 (Is (.agg #[.bool false, .slice none 0 0])))), (9, (.box 24 ((ZN (X)) w.heap.size))), (10, (.box 24 ((ZN (R)) w.heap.size)))] [(41, (Is (.bool true)))] B5 a5 W5 := S5
  refine wp_cond_true (S5.bool 0 41 rfl) ?_
  refine wp_stmt_seq [.val ((ZN (X)) w.heap.size),
      .val ((ZN (1)) w.heap.size),
      .val ((ZN (X - 1)) w.heap.size),
      .put (.inl 9) (.box 24 ((ZN (X - 1)) w.heap.size))] [.inr 0, .inr 1, .inr 2, .inr 3, .inr 4, .inr 5] [.inr 0] follows S5 rfl (by kernel_rfl) ?_ ?_
  · refine ⟨⟨⟨⟨trivial, ?_⟩, ?_⟩, ?_⟩, ?_⟩
    · exact owe_load rfl (wants_all rfl) rfl (k := 4) rfl (by kernel_rfl) (loads_of strct_int shp_zn) rfl
    · exact owe_call1 rfl (wants_all rfl) rfl (opnd_const _) (fresh_zn _) rfl (fun args w => by go_simp) (g_rof 1 (by omega) (by omega))
    · exact owe_call2 rfl (wants_all rfl) rfl (opnd_op 0 42 (by kernel_rfl) rfl) (opnd_op 1 43 (by kernel_rfl) rfl) (fresh_zn _) rfl (fun args w => by go_simp) (fun w u v h1 h2 => g_rsub (by omega) (by omega) w u v ((zn_zv dX) _ _ h1) ((zn_zv d1) _ _ h2))
    · exact owe_set rfl (wants_all rfl) rfl (k := 4) rfl (by kernel_rfl) (opnd_op 2 44 (by kernel_rfl) rfl) (stores_of strct_int shp_zn shp_zn) rfl
  intro B6 a6 W6 S6
  replace S6 : Sta w 50 [(2, (.box 24 (Zx s p n c xs))), (3, (.box 24 (Zx t q m d ys))), (4, (.box 24 (Is (.agg #[.bool false, .slice none 0 0])))), (5, (.box 24 (Is (.agg #[.bool false, .slice none 0 0])))), (9, (.box 24 ((ZN (X - 1)) w.heap.size))), (10, (.box 24 ((ZN (R)) w.heap.size)))] [(41, (Is (.bool true)))] B6 a6 W6 := S6
  refine wp_stmt [.val ((ZN (R)) w.heap.size),
      .val (Zx t q m d ys),
      .val ((ZN (R + B)) w.heap.size),
      .put (.inl 10) (.box 24 ((ZN (R + B)) w.heap.size))] [.inr 0, .inr 1, .inr 2, .inr 3, .inr 4, .inr 5] [.inr 0] follows S6 rfl (by kernel_rfl) ?_ ?_
  · refine ⟨⟨⟨⟨trivial, ?_⟩, ?_⟩, ?_⟩, ?_⟩
    · exact owe_load rfl (wants_all rfl) rfl (k := 5) rfl (by kernel_rfl) (loads_of strct_int shp_zn) rfl
    · exact owe_load rfl (wants_all rfl) rfl (k := 1) rfl (by kernel_rfl) (loads_of strct_int shp_zx) rfl
    · exact owe_call2 rfl (wants_all rfl) rfl (opnd_op 0 45 (by kernel_rfl) rfl) (opnd_op 1 46 (by kernel_rfl) rfl) (fresh_zn _) rfl (fun args w => by go_simp) (fun w u v h1 h2 => g_radd (by omega) (by omega) w u v ((zn_zv dR) _ _ h1) ((zx_zv' eB (Nat.le_refl _)) _ _ h2))
    · exact owe_set rfl (wants_all rfl) rfl (k := 5) rfl (by kernel_rfl) (opnd_op 2 47 (by kernel_rfl) rfl) (stores_of strct_int shp_zn shp_zn) rfl
  intro B7 a7 W7 S7
  replace S7 : Sta w 50 [(2, (.box 24 (Zx s p n c xs))), (3, (.box 24 (Zx t q m d ys))), (4, (.box 24 (Is (.agg #[.bool false, .slice none 0 0])))), (5, (.box 24 (Is (.agg #[.bool false, .slice none 0 0])))), (9, (.box 24 ((ZN (X - 1)) w.heap.size))), (10, (.box 24 ((ZN (R + B)) w.heap.size)))] [(41, (Is (.bool true)))] B7 a7 W7 := S7
  refine thenN ?_
  refine wp_stmt_seq [.val ((ZN (X - 1)) w.heap.size),
      .val ((ZN (R + B)) w.heap.size),
      .put (.inl 4) (.box 24 ((ZN (X - 1)) w.heap.size)),
      .put (.inl 5) (.box 24 ((ZN (R + B)) w.heap.size))] [.inr 0, .inr 1, .inr 2, .inr 3, .inr 4, .inr 5] [.inr 0] follows S7 rfl (by kernel_rfl) ?_ ?_
  · refine ⟨⟨⟨⟨trivial, ?_⟩, ?_⟩, ?_⟩, ?_⟩
    · exact owe_load rfl (wants_all rfl) rfl (k := 4) rfl (by kernel_rfl) (loads_of strct_int shp_zn) rfl
    · exact owe_load rfl (wants_all rfl) rfl (k := 5) rfl (by kernel_rfl) (loads_of strct_int shp_zn) rfl
    · exact owe_set rfl (wants_all rfl) rfl (k := 2) rfl (by kernel_rfl) (opnd_op 0 48 (by kernel_rfl) rfl) (stores_of strct_int shp_z0 shp_zn) rfl
    · exact owe_set rfl (wants_all rfl) rfl (k := 3) rfl (by kernel_rfl) (opnd_op 1 49 (by kernel_rfl) rfl) (stores_of strct_int shp_z0 shp_zn) rfl
  intro B8 a8 W8 S8
  replace S8 : Sta w 50 [(2, (.box 24 (Zx s p n c xs))), (3, (.box 24 (Zx t q m d ys))), (4, (.box 24 ((ZN (X - 1)) w.heap.size))), (5, (.box 24 ((ZN (R + B)) w.heap.size))), (9, (.box 24 ((ZN (X - 1)) w.heap.size))), (10, (.box 24 ((ZN (R + B)) w.heap.size)))] [(41, (Is (.bool true)))] B8 a8 W8 := S8
  refine wp_ret ?_
  exact end_two S8 rfl (res_cell S8 2 4 rfl strct_int shp_zn) (res_cell S8 3 5 rfl strct_int shp_zn)


theorem sg_rest (s t : Bool) (x y : Nat) : sg s x - sg (s != t) (x / y) * sg t y = sg s (x % y) := by
  have e : ((y * (x / y) + x % y : Nat) : Int) = (x : Int) := by rw [Nat.div_add_mod]
  rw [Int.natCast_add, Int.natCast_mul] at e
  obtain ⟨q, hq⟩ : ∃ q, x / y = q := ⟨_, rfl⟩
  obtain ⟨r, hr⟩ : ∃ r, x % y = r := ⟨_, rfl⟩
  rw [hq, hr] at e ⊢
  rw [Int.mul_comm] at e
  cases s <;> cases t <;> simp [sg, Int.neg_mul, Int.mul_neg] <;> omega
theorem sg_sign0 (s : Bool) (r : Nat) : (sg s r).sign = 0 ↔ r = 0 := by
  rw [Int.sign_eq_zero_iff_zero]
  unfold sg
  split <;> omega
theorem sg_sign_eq {s t : Bool} {r y : Nat} (hr : r ≠ 0) (hy : y ≠ 0) : (sg s r).sign = (sg t y).sign ↔ s = t := by
  have h1 : ∀ (b : Bool) (k : Nat), k ≠ 0 → (sg b k).sign = if b then -1 else 1 := by
    intro b k hk
    unfold sg
    cases b
    · simp only [Bool.false_eq_true, if_false]; exact Int.sign_eq_one_of_pos (by omega)
    · simp only [if_true]; exact Int.sign_eq_neg_one_of_neg (by omega)
  rw [h1 s r hr, h1 t y hy]
  cases s <;> cases t <;> simp
/-- The document's Floor. -/
theorem g_rfloor {A B : Int} {ka kb : Nat} (hB : B ≠ 0) (hk : ka + kb + 1 ≤ 35184372088831) : ∀ w u v, Zv A ka u w → Zv B kb v w → Calls Tryd.prog 23 #[u, v] w (Gives (TWO (ZN (fl A B)) (ZN (rm A B))) w) := by
  rintro w u v ⟨s, p, n, c, xs, rfl, h, rfl, hn⟩ ⟨t, q, m, d, ys, rfl, h', rfl, hm⟩
  have hy : val ys ≠ 0 := fun e => hB (by rw [e]; cases t <;> rfl)
  have hR := sg_rest s t (val xs) (val ys)
  have hlt := Nat.mod_lt (val xs) (Nat.pos_of_ne_zero hy)
  have dR : (digs (sg s (val xs % val ys)).natAbs).length ≤ m := by rw [sg_abs]; exact Nat.le_trans (digs_length_mono (Nat.le_of_lt hlt)) h'.dl
  by_cases h0 : val xs % val ys = 0
  · obtain ⟨e1, e2⟩ := floor_plain s t (val xs) (val ys) hy (Or.inr h0)
    refine Gives.cast (rfloor_w1 w s t p q n c m d xs ys h h' _ _ _ _ rfl rfl rfl hR dR hy (by omega) ((sg_sign0 s _).2 h0)) ?_
    rw [← e1]
    unfold rm
    rw [e1, hR]
  · by_cases hst : s = t
    · obtain ⟨e1, e2⟩ := floor_plain s t (val xs) (val ys) hy (Or.inl hst)
      refine Gives.cast (rfloor_w2 w s t p q n c m d xs ys h h' _ _ _ _ rfl rfl rfl hR dR hy (by omega) (fun e => h0 ((sg_sign0 s _).1 e)) ((sg_sign_eq h0 hy).2 hst)) ?_
      rw [← e1]
      unfold rm
      rw [e1, hR]
    · obtain ⟨e1, e2⟩ := floor_up s t (val xs) (val ys) hy hst h0
      refine Gives.cast (rfloor_w3 w s t p q n c m d xs ys h h' _ _ _ _ rfl rfl rfl hR dR hy (by omega) (fun e => h0 ((sg_sign0 s _).1 e)) (fun e => hst ((sg_sign_eq h0 hy).1 e))) ?_
      have f1 : sg (s != t) (val xs / val ys) - 1 = fl (sg s (val xs)) (sg t (val ys)) := by
        rw [e1]
        have : (s != t) = true := by simpa using hst
        rw [this]
        simp only [sg, if_true]
        omega
      rw [f1]
      unfold rm
      rw [← f1, ← hR, Int.sub_mul]
      congr 2
      omega


theorem rm_le {A B : Int} (hB : B ≠ 0) : (rm A B).natAbs ≤ B.natAbs := by
  unfold rm fl
  by_cases hp : 0 < B
  · rw [if_pos hp]
    have h1 := Int.emod_nonneg A (by omega : B ≠ 0)
    have h2 := Int.emod_lt_of_pos A hp
    have h3 := Int.mul_ediv_add_emod A B
    rw [Int.mul_comm] at h3
    omega
  · rw [if_neg hp]
    have h1 := Int.emod_nonneg (-A) (by omega : -B ≠ 0)
    have h2 := Int.emod_lt_of_pos (-A) (by omega : 0 < -B)
    have h3 := Int.mul_ediv_add_emod (-A) (-B)
    rw [Int.mul_comm, Int.mul_neg] at h3
    omega

end Go.Proofs.YtcngoobdknifdaaDoor
