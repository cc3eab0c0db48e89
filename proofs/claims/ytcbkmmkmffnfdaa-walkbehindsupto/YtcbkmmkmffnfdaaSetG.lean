import Derived.Test.YtcbkmmkmffnfdaaSetQ
import Derived.Test.YtcbkmmkmffnfdaaSetI
/-
 The document's quotients: Floor, Near, Exact.
-/
namespace Go.Proofs.Ytcbkmmkmffnfdaa
open Go Go.RowKit Nt
set_option linter.unusedSimpArgs false
set_option linter.unusedVariables false

abbrev qgamq0  : Rk := .box 24 zI
abbrev qgamq1 (w : World) (X : Int) : Rk := .box 24 ((ZN (X)) w.heap.size)
abbrev qgamq2 (w : World) (R : Int) : Rk := .box 24 ((ZN (R)) w.heap.size)
set_option maxHeartbeats 400000 in
theorem rfloor_w1 (w : World) (s t : Bool) (p q : Option Addr) (n c m d : Nat) (xs ys : List Nat) (h : Sl w p n c xs) (h' : Sl w q m d ys) (A B X R : Int) (eA : sg s (val xs) = A) (eB : sg t (val ys) = B) (eX : sg (s != t) (val xs / val ys) = X) (eR : A - X * B = R) (dR : (digs R.natAbs).length ≤ m) (hy : val ys ≠ 0) (hs : n + m + 1 ≤ 35184372088831) (h0 : R.sign = 0) :
  Calls Try.prog 29 #[.agg #[.bool s, .slice p n c], .agg #[.bool t, .slice q m d]] w (Gives (TWO (ZN (X)) (ZN (R))) w) := by
 have dA : (digs A.natAbs).length ≤ n := by rw [← eA]; exact sg_dl h
 have dB : (digs B.natAbs).length ≤ m := by rw [← eB]; exact sg_dl h'
 have dX : (digs X.natAbs).length ≤ n := by rw [← eX, sg_abs]; exact Nat.le_trans (digs_length_mono (Nat.div_le_self _ _)) h.dl
 have dXB := dl_mul dX dB
 have dq : (digs (val xs / val ys)).length ≤ n := Nat.le_trans (digs_length_mono (Nat.div_le_self _ _)) h.dl
 refine calls_sta (sl := [(0, (Zx s p n c xs)), (1, (Zx t q m d ys))]) Try.func29 rfl Try.ntmps29 (by simp) (args_cons rfl (zx_has h) (args_cons rfl (zx_has h') args_nil)) ?_
 intro a0 S0
 refine wq [.new (.box 24 (Zx s p n c xs)), .new (.box 24 (Zx t q m d ys)), .new (qgamq0), .new (qgamq0)] [.inl 0, .inl 1, .inl 2, .inl 3] [] S0 ?_ ?_
 ·apply jj4
  ·exact owe_box rfl wA rfl (oS 0 0) rfl (fun ρ w h => box_int shp_zx ρ _ _ w h)
  ·exact owe_box rfl wA rfl (oS 1 1) rfl (fun ρ w h => box_int shp_zx ρ _ _ w h)
  ·exact owe_new rfl wA rfl rfl (fun ρ w => alloc_int ρ _ w)
  ·exact owe_new rfl wA rfl rfl (fun ρ w => alloc_int ρ _ w)
 intro _ a1 _ (S1 : Sta w 50 [(2, (.box 24 (Zx s p n c xs))), (3, (.box 24 (Zx t q m d ys))), (4, (qgamq0)), (5, (qgamq0))] [] _ _ _)
 refine wq [.val (Part a1 2 1), .val (Nx p n c xs), .val (Part a1 3 1), .val (Nx q m d ys), .val ((THREE (NN (val xs / val ys)) (NN (val xs % val ys)) (IS (.int .i64 0))) w.heap.size), .val ((THREE (NN (val xs / val ys)) (NN (val xs % val ys)) (IS (.int .i64 0))) w.heap.size), .val ((NN (val xs / val ys)) w.heap.size), .val ((NN (val xs % val ys)) w.heap.size), .val (iV 0), .val ((NN (val xs / val ys)) w.heap.size), .val ((NN (val xs % val ys)) w.heap.size), .val (iV 0)] [.inr 0, .inr 1, .inr 2, .inr 3] [.inl 9] S1 ?_ ?_
 ·repeat' refine And.intro ?_ ?_
  ·trivial
  ·exact owe_part rfl wA rfl (k := 0) rfl (by kernel_rfl) rfl (fun ρ w b h => part_int1 ρ _ _ w b 0 h)
  ·exact owe_pload rfl wA rfl (oO 0 12) (k := 0) rfl (by kernel_rfl) rfl (fun ρ w b u h1 h2 h3 => pload_mag zx_mag ρ _ _ w b u h1 h2 h3)
  ·exact owe_part rfl wA rfl (k := 1) rfl (by kernel_rfl) rfl (fun ρ w b h => part_int1 ρ _ _ w b 0 h)
  ·exact owe_pload rfl wA rfl (oO 2 14) (k := 1) rfl (by kernel_rfl) rfl (fun ρ w b u h1 h2 h3 => pload_mag zx_mag ρ _ _ w b u h1 h2 h3)
  ·exact cc2 wA (qO 1 13 rfl) (qO 3 15 rfl) (fresh_three (fresh_nn _) (fresh_nn _) (fresh_is _)) (fun w u v h1 h2 => g_rdiv hy (by omega) (by omega) w u v ((nx_nv (Nat.le_refl _)) _ _ h1) ((nx_nv (Nat.le_refl _)) _ _ h2))
  ·exact mO 4 16
  ·exact e30 wA (oO 5 11)
  ·exact e31 wA (oO 5 11)
  ·exact e32 wA (oO 5 11)
  ·exact mO 6 17
  ·exact mO 7 18
  ·exact mO 8 19
 intro _ a2 _ (S2 : Sta w 50 [(2, (.box 24 (Zx s p n c xs))), (3, (.box 24 (Zx t q m d ys))), (4, (qgamq0)), (5, (qgamq0))] [(6, ((NN (val xs / val ys)) w.heap.size))] _ _ _)
 refine wq [.val (Part a2 2 0), .val (Is (.bool s)), .val (Part a2 3 0), .val (Is (.bool t)), .val (Is (.bool (s != t))), .val ((NN (val xs / val ys)) w.heap.size), .val ((ZN (X)) w.heap.size), .new (qgamq0), .put (.inr 7) (qgamq1 w X)] [.inr 0, .inr 1, .inr 2, .inr 3, .inl 7] [] S2 ?_ ?_
 ·repeat' refine And.intro ?_ ?_
  ·trivial
  ·exact owe_part rfl wA rfl (k := 0) rfl (by kernel_rfl) rfl (fun ρ w b h => part_int0 ρ _ _ w b 0 h)
  ·exact owe_pload rfl wA rfl (oO 0 20) (k := 0) rfl (by kernel_rfl) rfl (fun ρ w b u h1 h2 h3 => pload_neg zx_neg ρ _ _ w b u h1 h2 h3)
  ·exact owe_part rfl wA rfl (k := 1) rfl (by kernel_rfl) rfl (fun ρ w b h => part_int0 ρ _ _ w b 0 h)
  ·exact owe_pload rfl wA rfl (oO 2 22) (k := 1) rfl (by kernel_rfl) rfl (fun ρ w b u h1 h2 h3 => pload_neg zx_neg ρ _ _ w b u h1 h2 h3)
  ·exact b_neq_bool wA (oO 1 21) (oO 3 23)
  ·exact mS 0 6
  ·exact cc2 wA (qO 4 24 rfl) (qO 5 25 rfl) (fresh_zn _) (fun w u0 u1 h0 h1 => Gives.cast ((fun w u v h1 h2 => g_made (by omega) w u v h1 ((nn_nv dq) _ _ h2)) w u0 u1 h0 h1) (by rw [eX]))
  ·exact owe_new rfl wA rfl rfl (fun ρ w => alloc_int ρ _ w)
  ·exact owe_put 7 rfl wA rfl (by kernel_rfl) rfl (oO 6 26) (stores_of strct_int shp_z0 shp_zn) rfl
 intro _ a3 _ (S3 : Sta w 50 [(2, (.box 24 (Zx s p n c xs))), (3, (.box 24 (Zx t q m d ys))), (4, (qgamq0)), (5, (qgamq0)), (9, (qgamq1 w X))] [] _ _ _)
 refine wq [.val (Zx s p n c xs), .val ((ZN (X)) w.heap.size), .val (Zx t q m d ys), .val ((ZN (X * B)) w.heap.size), .val ((ZN (R)) w.heap.size), .new (qgamq0), .put (.inr 5) (qgamq2 w R)] [.inr 0, .inr 1, .inr 2, .inr 3, .inr 4, .inl 5] [] S3 ?_ ?_
 ·repeat' refine And.intro ?_ ?_
  ·trivial
  ·exact lod 0 wA (loads_of strct_int shp_zx)
  ·exact lod 4 wA (loads_of strct_int shp_zn)
  ·exact lod 1 wA (loads_of strct_int shp_zx)
  ·exact cc2 wA (qO 1 28 rfl) (qO 2 29 rfl) (fresh_zn _) (fun w u v h1 h2 => g_rmul (by omega) w u v ((zn_zv dX) _ _ h1) ((zx_zv' eB (Nat.le_refl _)) _ _ h2))
  ·exact cc2 wA (qO 0 27 rfl) (qO 3 30 rfl) (fresh_zn _) (fun w u0 u1 h0 h1 => Gives.cast ((fun w u v h1 h2 => g_rsub (by omega) (by omega) w u v ((zx_zv' eA (Nat.le_refl _)) _ _ h1) ((zn_zv dXB) _ _ h2)) w u0 u1 h0 h1) (by rw [eR]))
  ·exact owe_new rfl wA rfl rfl (fun ρ w => alloc_int ρ _ w)
  ·exact owe_put 5 rfl wA rfl (by kernel_rfl) rfl (oO 4 31) (stores_of strct_int shp_z0 shp_zn) rfl
 intro _ a4 _ (S4 : Sta w 50 [(2, (.box 24 (Zx s p n c xs))), (3, (.box 24 (Zx t q m d ys))), (4, (qgamq0)), (5, (qgamq0)), (9, (qgamq1 w X)), (10, (qgamq2 w R))] [] _ _ _)
 refine wp_seq ?_
 refine wq [.val ((ZN (R)) w.heap.size), .val (iV ((R).sign)), kF, kF, .off, .off, .off, .off, .off, kF] [.inr 0, .inr 1, .inr 2, .inr 3, .inr 4, .inr 5] [.inl 9] S4 ?_ ?_
 ·repeat' refine And.intro ?_ ?_
  ·trivial
  ·exact lod 5 wA (loads_of strct_int shp_zn)
  ·exact cc1 wA (qO 0 32 rfl) (fresh_is _) (fun w u h1 => g_rsign (by omega) w u ((zn_zv dR) _ _ h1))
  ·exact b_neq_int_f wA (oO 1 33) (opnd_const _) (h := h0)
  ·exact mO 2 34
  ·exact oF 3 35
  ·exact oF 3 35
  ·exact oF 3 35
  ·exact oF 3 35
  ·exact oF 3 35
  ·exact pF wA (oO 3 35) (opnd_const _)
 intro _ a5 _ (S5 : Sta w 50 [(2, (.box 24 (Zx s p n c xs))), (3, (.box 24 (Zx t q m d ys))), (4, (qgamq0)), (5, (qgamq0)), (9, (qgamq1 w X)), (10, (qgamq2 w R))] [(41, bF)] _ _ _)
 refine wp_cond_false (S5.bool 0 41 rfl) (wp_skip (thenN ?_))
 refine wq [.val ((ZN (X)) w.heap.size), .val ((ZN (R)) w.heap.size), .put (.inl 4) (qgamq1 w X), .put (.inl 5) (qgamq2 w R)] [.inr 0, .inr 1, .inr 2, .inr 3, .inr 4, .inr 5] [.inr 0] S5 ?_ ?_
 ·apply jj4
  ·exact lod 4 wA (loads_of strct_int shp_zn)
  ·exact lod 5 wA (loads_of strct_int shp_zn)
  ·exact owe_set rfl wA rfl (k := 2) rfl (by kernel_rfl) (oO 0 48) (stores_of strct_int shp_z0 shp_zn) rfl
  ·exact owe_set rfl wA rfl (k := 3) rfl (by kernel_rfl) (oO 1 49) (stores_of strct_int shp_z0 shp_zn) rfl
 intro _ a6 _ (S6 : Sta w 50 [(2, (.box 24 (Zx s p n c xs))), (3, (.box 24 (Zx t q m d ys))), (4, (qgamq1 w X)), (5, (qgamq2 w R)), (9, (qgamq1 w X)), (10, (qgamq2 w R))] [(41, bF)] _ _ _)
 refine wp_ret ?_
 exact end_two S6 rfl (res_cell S6 2 4 rfl strct_int shp_zn) (res_cell S6 3 5 rfl strct_int shp_zn)

abbrev qtvfs0  : Rk := .box 24 zI
abbrev qtvfs1 (w : World) (X : Int) : Rk := .box 24 ((ZN (X)) w.heap.size)
abbrev qtvfs2 (w : World) (R : Int) : Rk := .box 24 ((ZN (R)) w.heap.size)
set_option maxHeartbeats 400000 in
theorem rfloor_w2 (w : World) (s t : Bool) (p q : Option Addr) (n c m d : Nat) (xs ys : List Nat) (h : Sl w p n c xs) (h' : Sl w q m d ys) (A B X R : Int) (eA : sg s (val xs) = A) (eB : sg t (val ys) = B) (eX : sg (s != t) (val xs / val ys) = X) (eR : A - X * B = R) (dR : (digs R.natAbs).length ≤ m) (hy : val ys ≠ 0) (hs : n + m + 1 ≤ 35184372088831) (h0 : R.sign ≠ 0) (hS : R.sign = B.sign) :
  Calls Try.prog 29 #[.agg #[.bool s, .slice p n c], .agg #[.bool t, .slice q m d]] w (Gives (TWO (ZN (X)) (ZN (R))) w) := by
 have dA : (digs A.natAbs).length ≤ n := by rw [← eA]; exact sg_dl h
 have dB : (digs B.natAbs).length ≤ m := by rw [← eB]; exact sg_dl h'
 have dX : (digs X.natAbs).length ≤ n := by rw [← eX, sg_abs]; exact Nat.le_trans (digs_length_mono (Nat.div_le_self _ _)) h.dl
 have dXB := dl_mul dX dB
 have dq : (digs (val xs / val ys)).length ≤ n := Nat.le_trans (digs_length_mono (Nat.div_le_self _ _)) h.dl
 refine calls_sta (sl := [(0, (Zx s p n c xs)), (1, (Zx t q m d ys))]) Try.func29 rfl Try.ntmps29 (by simp) (args_cons rfl (zx_has h) (args_cons rfl (zx_has h') args_nil)) ?_
 intro a0 S0
 refine wq [.new (.box 24 (Zx s p n c xs)), .new (.box 24 (Zx t q m d ys)), .new (qtvfs0), .new (qtvfs0)] [.inl 0, .inl 1, .inl 2, .inl 3] [] S0 ?_ ?_
 ·apply jj4
  ·exact owe_box rfl wA rfl (oS 0 0) rfl (fun ρ w h => box_int shp_zx ρ _ _ w h)
  ·exact owe_box rfl wA rfl (oS 1 1) rfl (fun ρ w h => box_int shp_zx ρ _ _ w h)
  ·exact owe_new rfl wA rfl rfl (fun ρ w => alloc_int ρ _ w)
  ·exact owe_new rfl wA rfl rfl (fun ρ w => alloc_int ρ _ w)
 intro _ a1 _ (S1 : Sta w 50 [(2, (.box 24 (Zx s p n c xs))), (3, (.box 24 (Zx t q m d ys))), (4, (qtvfs0)), (5, (qtvfs0))] [] _ _ _)
 refine wq [.val (Part a1 2 1), .val (Nx p n c xs), .val (Part a1 3 1), .val (Nx q m d ys), .val ((THREE (NN (val xs / val ys)) (NN (val xs % val ys)) (IS (.int .i64 0))) w.heap.size), .val ((THREE (NN (val xs / val ys)) (NN (val xs % val ys)) (IS (.int .i64 0))) w.heap.size), .val ((NN (val xs / val ys)) w.heap.size), .val ((NN (val xs % val ys)) w.heap.size), .val (iV 0), .val ((NN (val xs / val ys)) w.heap.size), .val ((NN (val xs % val ys)) w.heap.size), .val (iV 0)] [.inr 0, .inr 1, .inr 2, .inr 3] [.inl 9] S1 ?_ ?_
 ·repeat' refine And.intro ?_ ?_
  ·trivial
  ·exact owe_part rfl wA rfl (k := 0) rfl (by kernel_rfl) rfl (fun ρ w b h => part_int1 ρ _ _ w b 0 h)
  ·exact owe_pload rfl wA rfl (oO 0 12) (k := 0) rfl (by kernel_rfl) rfl (fun ρ w b u h1 h2 h3 => pload_mag zx_mag ρ _ _ w b u h1 h2 h3)
  ·exact owe_part rfl wA rfl (k := 1) rfl (by kernel_rfl) rfl (fun ρ w b h => part_int1 ρ _ _ w b 0 h)
  ·exact owe_pload rfl wA rfl (oO 2 14) (k := 1) rfl (by kernel_rfl) rfl (fun ρ w b u h1 h2 h3 => pload_mag zx_mag ρ _ _ w b u h1 h2 h3)
  ·exact cc2 wA (qO 1 13 rfl) (qO 3 15 rfl) (fresh_three (fresh_nn _) (fresh_nn _) (fresh_is _)) (fun w u v h1 h2 => g_rdiv hy (by omega) (by omega) w u v ((nx_nv (Nat.le_refl _)) _ _ h1) ((nx_nv (Nat.le_refl _)) _ _ h2))
  ·exact mO 4 16
  ·exact e30 wA (oO 5 11)
  ·exact e31 wA (oO 5 11)
  ·exact e32 wA (oO 5 11)
  ·exact mO 6 17
  ·exact mO 7 18
  ·exact mO 8 19
 intro _ a2 _ (S2 : Sta w 50 [(2, (.box 24 (Zx s p n c xs))), (3, (.box 24 (Zx t q m d ys))), (4, (qtvfs0)), (5, (qtvfs0))] [(6, ((NN (val xs / val ys)) w.heap.size))] _ _ _)
 refine wq [.val (Part a2 2 0), .val (Is (.bool s)), .val (Part a2 3 0), .val (Is (.bool t)), .val (Is (.bool (s != t))), .val ((NN (val xs / val ys)) w.heap.size), .val ((ZN (X)) w.heap.size), .new (qtvfs0), .put (.inr 7) (qtvfs1 w X)] [.inr 0, .inr 1, .inr 2, .inr 3, .inl 7] [] S2 ?_ ?_
 ·repeat' refine And.intro ?_ ?_
  ·trivial
  ·exact owe_part rfl wA rfl (k := 0) rfl (by kernel_rfl) rfl (fun ρ w b h => part_int0 ρ _ _ w b 0 h)
  ·exact owe_pload rfl wA rfl (oO 0 20) (k := 0) rfl (by kernel_rfl) rfl (fun ρ w b u h1 h2 h3 => pload_neg zx_neg ρ _ _ w b u h1 h2 h3)
  ·exact owe_part rfl wA rfl (k := 1) rfl (by kernel_rfl) rfl (fun ρ w b h => part_int0 ρ _ _ w b 0 h)
  ·exact owe_pload rfl wA rfl (oO 2 22) (k := 1) rfl (by kernel_rfl) rfl (fun ρ w b u h1 h2 h3 => pload_neg zx_neg ρ _ _ w b u h1 h2 h3)
  ·exact b_neq_bool wA (oO 1 21) (oO 3 23)
  ·exact mS 0 6
  ·exact cc2 wA (qO 4 24 rfl) (qO 5 25 rfl) (fresh_zn _) (fun w u0 u1 h0 h1 => Gives.cast ((fun w u v h1 h2 => g_made (by omega) w u v h1 ((nn_nv dq) _ _ h2)) w u0 u1 h0 h1) (by rw [eX]))
  ·exact owe_new rfl wA rfl rfl (fun ρ w => alloc_int ρ _ w)
  ·exact owe_put 7 rfl wA rfl (by kernel_rfl) rfl (oO 6 26) (stores_of strct_int shp_z0 shp_zn) rfl
 intro _ a3 _ (S3 : Sta w 50 [(2, (.box 24 (Zx s p n c xs))), (3, (.box 24 (Zx t q m d ys))), (4, (qtvfs0)), (5, (qtvfs0)), (9, (qtvfs1 w X))] [] _ _ _)
 refine wq [.val (Zx s p n c xs), .val ((ZN (X)) w.heap.size), .val (Zx t q m d ys), .val ((ZN (X * B)) w.heap.size), .val ((ZN (R)) w.heap.size), .new (qtvfs0), .put (.inr 5) (qtvfs2 w R)] [.inr 0, .inr 1, .inr 2, .inr 3, .inr 4, .inl 5] [] S3 ?_ ?_
 ·repeat' refine And.intro ?_ ?_
  ·trivial
  ·exact lod 0 wA (loads_of strct_int shp_zx)
  ·exact lod 4 wA (loads_of strct_int shp_zn)
  ·exact lod 1 wA (loads_of strct_int shp_zx)
  ·exact cc2 wA (qO 1 28 rfl) (qO 2 29 rfl) (fresh_zn _) (fun w u v h1 h2 => g_rmul (by omega) w u v ((zn_zv dX) _ _ h1) ((zx_zv' eB (Nat.le_refl _)) _ _ h2))
  ·exact cc2 wA (qO 0 27 rfl) (qO 3 30 rfl) (fresh_zn _) (fun w u0 u1 h0 h1 => Gives.cast ((fun w u v h1 h2 => g_rsub (by omega) (by omega) w u v ((zx_zv' eA (Nat.le_refl _)) _ _ h1) ((zn_zv dXB) _ _ h2)) w u0 u1 h0 h1) (by rw [eR]))
  ·exact owe_new rfl wA rfl rfl (fun ρ w => alloc_int ρ _ w)
  ·exact owe_put 5 rfl wA rfl (by kernel_rfl) rfl (oO 4 31) (stores_of strct_int shp_z0 shp_zn) rfl
 intro _ a4 _ (S4 : Sta w 50 [(2, (.box 24 (Zx s p n c xs))), (3, (.box 24 (Zx t q m d ys))), (4, (qtvfs0)), (5, (qtvfs0)), (9, (qtvfs1 w X)), (10, (qtvfs2 w R))] [] _ _ _)
 refine wp_seq ?_
 refine wq [.val ((ZN (R)) w.heap.size), .val (iV ((R).sign)), kT, kT, .val ((ZN (R)) w.heap.size), .val (iV ((R).sign)), .val (Zx t q m d ys), .val (iV ((B).sign)), kF, kF] [.inr 0, .inr 1, .inr 2, .inr 3, .inr 4, .inr 5] [.inl 9] S4 ?_ ?_
 ·repeat' refine And.intro ?_ ?_
  ·trivial
  ·exact lod 5 wA (loads_of strct_int shp_zn)
  ·exact cc1 wA (qO 0 32 rfl) (fresh_is _) (fun w u h1 => g_rsign (by omega) w u ((zn_zv dR) _ _ h1))
  ·exact b_neq_int_t wA (oO 1 33) (opnd_const _) (h := h0)
  ·exact mO 2 34
  ·exact lod 5 (wI 3 35) (loads_of strct_int shp_zn)
  ·exact cc1 (wI 3 35) (qO 4 36 rfl) (fresh_is _) (fun w u h1 => g_rsign (by omega) w u ((zn_zv dR) _ _ h1))
  ·exact lod 1 (wI 3 35) (loads_of strct_int shp_zx)
  ·exact cc1 (wI 3 35) (qO 6 38 rfl) (fresh_is _) (fun w u h1 => g_rsign (by omega) w u ((zx_zv' eB (Nat.le_refl _)) _ _ h1))
  ·exact b_neq_int_f (wI 3 35) (oO 5 37) (oO 7 39) (h := hS)
  ·exact pT wA (oO 3 35) (oO 8 40)
 intro _ a5 _ (S5 : Sta w 50 [(2, (.box 24 (Zx s p n c xs))), (3, (.box 24 (Zx t q m d ys))), (4, (qtvfs0)), (5, (qtvfs0)), (9, (qtvfs1 w X)), (10, (qtvfs2 w R))] [(41, bF)] _ _ _)
 refine wp_cond_false (S5.bool 0 41 rfl) (wp_skip (thenN ?_))
 refine wq [.val ((ZN (X)) w.heap.size), .val ((ZN (R)) w.heap.size), .put (.inl 4) (qtvfs1 w X), .put (.inl 5) (qtvfs2 w R)] [.inr 0, .inr 1, .inr 2, .inr 3, .inr 4, .inr 5] [.inr 0] S5 ?_ ?_
 ·apply jj4
  ·exact lod 4 wA (loads_of strct_int shp_zn)
  ·exact lod 5 wA (loads_of strct_int shp_zn)
  ·exact owe_set rfl wA rfl (k := 2) rfl (by kernel_rfl) (oO 0 48) (stores_of strct_int shp_z0 shp_zn) rfl
  ·exact owe_set rfl wA rfl (k := 3) rfl (by kernel_rfl) (oO 1 49) (stores_of strct_int shp_z0 shp_zn) rfl
 intro _ a6 _ (S6 : Sta w 50 [(2, (.box 24 (Zx s p n c xs))), (3, (.box 24 (Zx t q m d ys))), (4, (qtvfs1 w X)), (5, (qtvfs2 w R)), (9, (qtvfs1 w X)), (10, (qtvfs2 w R))] [(41, bF)] _ _ _)
 refine wp_ret ?_
 exact end_two S6 rfl (res_cell S6 2 4 rfl strct_int shp_zn) (res_cell S6 3 5 rfl strct_int shp_zn)

abbrev qtji60  : Rk := .box 24 zI
abbrev qtji61 (w : World) (X : Int) : Rk := .box 24 ((ZN (X - 1)) w.heap.size)
abbrev qtji62 (w : World) (B : Int) (R : Int) : Rk := .box 24 ((ZN (R + B)) w.heap.size)
abbrev qtji63 (s : Bool) (p : Option Addr) (n : Nat) (c : Nat) (xs : List Nat) : Rk := .box 24 (Zx s p n c xs)
abbrev qtji64 (t : Bool) (q : Option Addr) (m : Nat) (d : Nat) (ys : List Nat) : Rk := .box 24 (Zx t q m d ys)
set_option maxHeartbeats 400000 in
theorem rfloor_w3 (w : World) (s t : Bool) (p q : Option Addr) (n c m d : Nat) (xs ys : List Nat) (h : Sl w p n c xs) (h' : Sl w q m d ys) (A B X R : Int) (eA : sg s (val xs) = A) (eB : sg t (val ys) = B) (eX : sg (s != t) (val xs / val ys) = X) (eR : A - X * B = R) (dR : (digs R.natAbs).length ≤ m) (hy : val ys ≠ 0) (hs : n + m + 1 ≤ 35184372088831) (h0 : R.sign ≠ 0) (hS : R.sign ≠ B.sign) :
  Calls Try.prog 29 #[.agg #[.bool s, .slice p n c], .agg #[.bool t, .slice q m d]] w (Gives (TWO (ZN (X - 1)) (ZN (R + B))) w) := by
 have dA : (digs A.natAbs).length ≤ n := by rw [← eA]; exact sg_dl h
 have dB : (digs B.natAbs).length ≤ m := by rw [← eB]; exact sg_dl h'
 have dX : (digs X.natAbs).length ≤ n := by rw [← eX, sg_abs]; exact Nat.le_trans (digs_length_mono (Nat.div_le_self _ _)) h.dl
 have dXB := dl_mul dX dB
 have dq : (digs (val xs / val ys)).length ≤ n := Nat.le_trans (digs_length_mono (Nat.div_le_self _ _)) h.dl
 have d1 : (digs (1 : Int).natAbs).length ≤ 1 := dl_small (by decide)
 refine calls_sta (sl := [(0, (Zx s p n c xs)), (1, (Zx t q m d ys))]) Try.func29 rfl Try.ntmps29 (by simp) (args_cons rfl (zx_has h) (args_cons rfl (zx_has h') args_nil)) ?_
 intro a0 S0
 refine wq [.new (qtji63 s p n c xs), .new (qtji64 t q m d ys), .new (qtji60), .new (qtji60)] [.inl 0, .inl 1, .inl 2, .inl 3] [] S0 ?_ ?_
 ·apply jj4
  ·exact owe_box rfl wA rfl (oS 0 0) rfl (fun ρ w h => box_int shp_zx ρ _ _ w h)
  ·exact owe_box rfl wA rfl (oS 1 1) rfl (fun ρ w h => box_int shp_zx ρ _ _ w h)
  ·exact owe_new rfl wA rfl rfl (fun ρ w => alloc_int ρ _ w)
  ·exact owe_new rfl wA rfl rfl (fun ρ w => alloc_int ρ _ w)
 intro _ a1 _ (S1 : Sta w 50 [(2, (qtji63 s p n c xs)), (3, (qtji64 t q m d ys)), (4, (qtji60)), (5, (qtji60))] [] _ _ _)
 refine wq [.val (Part a1 2 1), .val (Nx p n c xs), .val (Part a1 3 1), .val (Nx q m d ys), .val ((THREE (NN (val xs / val ys)) (NN (val xs % val ys)) (IS (.int .i64 0))) w.heap.size), .val ((THREE (NN (val xs / val ys)) (NN (val xs % val ys)) (IS (.int .i64 0))) w.heap.size), .val ((NN (val xs / val ys)) w.heap.size), .val ((NN (val xs % val ys)) w.heap.size), .val (iV 0), .val ((NN (val xs / val ys)) w.heap.size), .val ((NN (val xs % val ys)) w.heap.size), .val (iV 0)] [.inr 0, .inr 1, .inr 2, .inr 3] [.inl 9] S1 ?_ ?_
 ·repeat' refine And.intro ?_ ?_
  ·trivial
  ·exact owe_part rfl wA rfl (k := 0) rfl (by kernel_rfl) rfl (fun ρ w b h => part_int1 ρ _ _ w b 0 h)
  ·exact owe_pload rfl wA rfl (oO 0 12) (k := 0) rfl (by kernel_rfl) rfl (fun ρ w b u h1 h2 h3 => pload_mag zx_mag ρ _ _ w b u h1 h2 h3)
  ·exact owe_part rfl wA rfl (k := 1) rfl (by kernel_rfl) rfl (fun ρ w b h => part_int1 ρ _ _ w b 0 h)
  ·exact owe_pload rfl wA rfl (oO 2 14) (k := 1) rfl (by kernel_rfl) rfl (fun ρ w b u h1 h2 h3 => pload_mag zx_mag ρ _ _ w b u h1 h2 h3)
  ·exact cc2 wA (qO 1 13 rfl) (qO 3 15 rfl) (fresh_three (fresh_nn _) (fresh_nn _) (fresh_is _)) (fun w u v h1 h2 => g_rdiv hy (by omega) (by omega) w u v ((nx_nv (Nat.le_refl _)) _ _ h1) ((nx_nv (Nat.le_refl _)) _ _ h2))
  ·exact mO 4 16
  ·exact e30 wA (oO 5 11)
  ·exact e31 wA (oO 5 11)
  ·exact e32 wA (oO 5 11)
  ·exact mO 6 17
  ·exact mO 7 18
  ·exact mO 8 19
 intro _ a2 _ (S2 : Sta w 50 [(2, (qtji63 s p n c xs)), (3, (qtji64 t q m d ys)), (4, (qtji60)), (5, (qtji60))] [(6, ((NN (val xs / val ys)) w.heap.size))] _ _ _)
 refine wq [.val (Part a2 2 0), .val (Is (.bool s)), .val (Part a2 3 0), .val (Is (.bool t)), .val (Is (.bool (s != t))), .val ((NN (val xs / val ys)) w.heap.size), .val ((ZN (X)) w.heap.size), .new (qtji60), .put (.inr 7) (.box 24 ((ZN (X)) w.heap.size))] [.inr 0, .inr 1, .inr 2, .inr 3, .inl 7] [] S2 ?_ ?_
 ·repeat' refine And.intro ?_ ?_
  ·trivial
  ·exact owe_part rfl wA rfl (k := 0) rfl (by kernel_rfl) rfl (fun ρ w b h => part_int0 ρ _ _ w b 0 h)
  ·exact owe_pload rfl wA rfl (oO 0 20) (k := 0) rfl (by kernel_rfl) rfl (fun ρ w b u h1 h2 h3 => pload_neg zx_neg ρ _ _ w b u h1 h2 h3)
  ·exact owe_part rfl wA rfl (k := 1) rfl (by kernel_rfl) rfl (fun ρ w b h => part_int0 ρ _ _ w b 0 h)
  ·exact owe_pload rfl wA rfl (oO 2 22) (k := 1) rfl (by kernel_rfl) rfl (fun ρ w b u h1 h2 h3 => pload_neg zx_neg ρ _ _ w b u h1 h2 h3)
  ·exact b_neq_bool wA (oO 1 21) (oO 3 23)
  ·exact mS 0 6
  ·exact cc2 wA (qO 4 24 rfl) (qO 5 25 rfl) (fresh_zn _) (fun w u0 u1 h0 h1 => Gives.cast ((fun w u v h1 h2 => g_made (by omega) w u v h1 ((nn_nv dq) _ _ h2)) w u0 u1 h0 h1) (by rw [eX]))
  ·exact owe_new rfl wA rfl rfl (fun ρ w => alloc_int ρ _ w)
  ·exact owe_put 7 rfl wA rfl (by kernel_rfl) rfl (oO 6 26) (stores_of strct_int shp_z0 shp_zn) rfl
 intro _ a3 _ (S3 : Sta w 50 [(2, (qtji63 s p n c xs)), (3, (qtji64 t q m d ys)), (4, (qtji60)), (5, (qtji60)), (9, (.box 24 ((ZN (X)) w.heap.size)))] [] _ _ _)
 refine wq [.val (Zx s p n c xs), .val ((ZN (X)) w.heap.size), .val (Zx t q m d ys), .val ((ZN (X * B)) w.heap.size), .val ((ZN (R)) w.heap.size), .new (qtji60), .put (.inr 5) (.box 24 ((ZN (R)) w.heap.size))] [.inr 0, .inr 1, .inr 2, .inr 3, .inr 4, .inl 5] [] S3 ?_ ?_
 ·repeat' refine And.intro ?_ ?_
  ·trivial
  ·exact lod 0 wA (loads_of strct_int shp_zx)
  ·exact lod 4 wA (loads_of strct_int shp_zn)
  ·exact lod 1 wA (loads_of strct_int shp_zx)
  ·exact cc2 wA (qO 1 28 rfl) (qO 2 29 rfl) (fresh_zn _) (fun w u v h1 h2 => g_rmul (by omega) w u v ((zn_zv dX) _ _ h1) ((zx_zv' eB (Nat.le_refl _)) _ _ h2))
  ·exact cc2 wA (qO 0 27 rfl) (qO 3 30 rfl) (fresh_zn _) (fun w u0 u1 h0 h1 => Gives.cast ((fun w u v h1 h2 => g_rsub (by omega) (by omega) w u v ((zx_zv' eA (Nat.le_refl _)) _ _ h1) ((zn_zv dXB) _ _ h2)) w u0 u1 h0 h1) (by rw [eR]))
  ·exact owe_new rfl wA rfl rfl (fun ρ w => alloc_int ρ _ w)
  ·exact owe_put 5 rfl wA rfl (by kernel_rfl) rfl (oO 4 31) (stores_of strct_int shp_z0 shp_zn) rfl
 intro _ a4 _ (S4 : Sta w 50 [(2, (qtji63 s p n c xs)), (3, (qtji64 t q m d ys)), (4, (qtji60)), (5, (qtji60)), (9, (.box 24 ((ZN (X)) w.heap.size))), (10, (.box 24 ((ZN (R)) w.heap.size)))] [] _ _ _)
 refine wp_seq ?_
 refine wq [.val ((ZN (R)) w.heap.size), .val (iV ((R).sign)), kT, kT, .val ((ZN (R)) w.heap.size), .val (iV ((R).sign)), .val (Zx t q m d ys), .val (iV ((B).sign)), kT, kT] [.inr 0, .inr 1, .inr 2, .inr 3, .inr 4, .inr 5] [.inl 9] S4 ?_ ?_
 ·repeat' refine And.intro ?_ ?_
  ·trivial
  ·exact lod 5 wA (loads_of strct_int shp_zn)
  ·exact cc1 wA (qO 0 32 rfl) (fresh_is _) (fun w u h1 => g_rsign (by omega) w u ((zn_zv dR) _ _ h1))
  ·exact b_neq_int_t wA (oO 1 33) (opnd_const _) (h := h0)
  ·exact mO 2 34
  ·exact lod 5 (wI 3 35) (loads_of strct_int shp_zn)
  ·exact cc1 (wI 3 35) (qO 4 36 rfl) (fresh_is _) (fun w u h1 => g_rsign (by omega) w u ((zn_zv dR) _ _ h1))
  ·exact lod 1 (wI 3 35) (loads_of strct_int shp_zx)
  ·exact cc1 (wI 3 35) (qO 6 38 rfl) (fresh_is _) (fun w u h1 => g_rsign (by omega) w u ((zx_zv' eB (Nat.le_refl _)) _ _ h1))
  ·exact b_neq_int_t (wI 3 35) (oO 5 37) (oO 7 39) (h := hS)
  ·exact pT wA (oO 3 35) (oO 8 40)
 intro _ a5 _ (S5 : Sta w 50 [(2, (qtji63 s p n c xs)), (3, (qtji64 t q m d ys)), (4, (qtji60)), (5, (qtji60)), (9, (.box 24 ((ZN (X)) w.heap.size))), (10, (.box 24 ((ZN (R)) w.heap.size)))] [(41, bT)] _ _ _)
 refine wp_cond_true (S5.bool 0 41 rfl) ?_
 refine wq [.val ((ZN (X)) w.heap.size), .val ((ZN (1)) w.heap.size), .val ((ZN (X - 1)) w.heap.size), .put (.inl 9) (qtji61 w X)] [.inr 0, .inr 1, .inr 2, .inr 3, .inr 4, .inr 5] [.inr 0] S5 ?_ ?_
 ·apply jj4
  ·exact lod 4 wA (loads_of strct_int shp_zn)
  ·exact cc1 wA (opnd_const _) (fresh_zn _) (g_rof 1 (by omega) (by omega))
  ·exact cc2 wA (qO 0 42 rfl) (qO 1 43 rfl) (fresh_zn _) (fun w u v h1 h2 => g_rsub (by omega) (by omega) w u v ((zn_zv dX) _ _ h1) ((zn_zv d1) _ _ h2))
  ·exact owe_set rfl wA rfl (k := 4) rfl (by kernel_rfl) (oO 2 44) (stores_of strct_int shp_zn shp_zn) rfl
 intro _ a6 _ (S6 : Sta w 50 [(2, (qtji63 s p n c xs)), (3, (qtji64 t q m d ys)), (4, (qtji60)), (5, (qtji60)), (9, (qtji61 w X)), (10, (.box 24 ((ZN (R)) w.heap.size)))] [(41, bT)] _ _ _)
 refine wr [.val ((ZN (R)) w.heap.size), .val (Zx t q m d ys), .val ((ZN (R + B)) w.heap.size), .put (.inl 10) (qtji62 w B R)] [.inr 0, .inr 1, .inr 2, .inr 3, .inr 4, .inr 5] [.inr 0] S6 ?_ ?_
 ·apply jj4
  ·exact lod 5 wA (loads_of strct_int shp_zn)
  ·exact lod 1 wA (loads_of strct_int shp_zx)
  ·exact cc2 wA (qO 0 45 rfl) (qO 1 46 rfl) (fresh_zn _) (fun w u v h1 h2 => g_radd (by omega) (by omega) w u v ((zn_zv dR) _ _ h1) ((zx_zv' eB (Nat.le_refl _)) _ _ h2))
  ·exact owe_set rfl wA rfl (k := 5) rfl (by kernel_rfl) (oO 2 47) (stores_of strct_int shp_zn shp_zn) rfl
 intro _ a7 _ (S7 : Sta w 50 [(2, (qtji63 s p n c xs)), (3, (qtji64 t q m d ys)), (4, (qtji60)), (5, (qtji60)), (9, (qtji61 w X)), (10, (qtji62 w B R))] [(41, bT)] _ _ _)
 refine thenN ?_
 refine wq [.val ((ZN (X - 1)) w.heap.size), .val ((ZN (R + B)) w.heap.size), .put (.inl 4) (qtji61 w X), .put (.inl 5) (qtji62 w B R)] [.inr 0, .inr 1, .inr 2, .inr 3, .inr 4, .inr 5] [.inr 0] S7 ?_ ?_
 ·apply jj4
  ·exact lod 4 wA (loads_of strct_int shp_zn)
  ·exact lod 5 wA (loads_of strct_int shp_zn)
  ·exact owe_set rfl wA rfl (k := 2) rfl (by kernel_rfl) (oO 0 48) (stores_of strct_int shp_z0 shp_zn) rfl
  ·exact owe_set rfl wA rfl (k := 3) rfl (by kernel_rfl) (oO 1 49) (stores_of strct_int shp_z0 shp_zn) rfl
 intro _ a8 _ (S8 : Sta w 50 [(2, (qtji63 s p n c xs)), (3, (qtji64 t q m d ys)), (4, (qtji61 w X)), (5, (qtji62 w B R)), (9, (qtji61 w X)), (10, (qtji62 w B R))] [(41, bT)] _ _ _)
 refine wp_ret ?_
 exact end_two S8 rfl (res_cell S8 2 4 rfl strct_int shp_zn) (res_cell S8 3 5 rfl strct_int shp_zn)


theorem sg_rest (s t : Bool) (x y : Nat) : sg s x - sg (s != t) (x / y) * sg t y = sg s (x % y) := by
 have e : ((y * (x / y) + x % y : Nat) : Int) = (x : Int) := by rw [Nat.div_add_mod]
 rw [Int.natCast_add, Int.natCast_mul] at e
 obtain ⟨q, hq⟩ : ∃ q, x / y = q := ⟨_, rfl⟩
 obtain ⟨r, hr⟩ : ∃ r, x % y = r := ⟨_, rfl⟩
 rw [hq, hr] at e ⊢
 rw [Int.mul_comm] at e
 cases s <;> cases t <;> simp [sg, Int.neg_mul, Int.mul_neg] <;> omega
theorem sg_sign0 (s : Bool) (r : Nat) : (sg s r).sign = 0 ↔ r = 0 := by
 rw [Int.sign_eq_zero_iff_zero]
 unfold sg
 split <;> omega
theorem sg_sign_eq {s t : Bool} {r y : Nat} (hr : r ≠ 0) (hy : y ≠ 0) : (sg s r).sign = (sg t y).sign ↔ s = t := by
 have h1 : ∀ (b : Bool) (k : Nat), k ≠ 0 → (sg b k).sign = if b then -1 else 1 := by
  intro b k hk
  unfold sg
  cases b
  ·simp only [Bool.false_eq_true, if_false]; exact Int.sign_eq_one_of_pos (by omega)
  ·simp only [if_true]; exact Int.sign_eq_neg_one_of_neg (by omega)
 rw [h1 s r hr, h1 t y hy]
 cases s <;> cases t <;> simp
/-- The document's Floor. -/
theorem g_rfloor {A B : Int} {ka kb : Nat} (hB : B ≠ 0) (hk : ka + kb + 1 ≤ 35184372088831) : ∀ w u v, Zv A ka u w → Zv B kb v w → Calls Try.prog 29 #[u, v] w (Gives (TWO (ZN (fl A B)) (ZN (rm A B))) w) := by
 rintro w u v ⟨s, p, n, c, xs, rfl, h, rfl, hn⟩ ⟨t, q, m, d, ys, rfl, h', rfl, hm⟩
 have hy : val ys ≠ 0 := fun e => hB (by rw [e]; cases t <;> rfl)
 have hR := sg_rest s t (val xs) (val ys)
 have hlt := Nat.mod_lt (val xs) (Nat.pos_of_ne_zero hy)
 have dR : (digs (sg s (val xs % val ys)).natAbs).length ≤ m := by rw [sg_abs]; exact Nat.le_trans (digs_length_mono (Nat.le_of_lt hlt)) h'.dl
 by_cases h0 : val xs % val ys = 0
 ·obtain ⟨e1, e2⟩ := floor_plain s t (val xs) (val ys) hy (Or.inr h0)
  refine Gives.cast (rfloor_w1 w s t p q n c m d xs ys h h' _ _ _ _ rfl rfl rfl hR dR hy (by omega) ((sg_sign0 s _).2 h0)) ?_
  rw [← e1]
  unfold rm
  rw [e1, hR]
 ·by_cases hst : s = t
  ·obtain ⟨e1, e2⟩ := floor_plain s t (val xs) (val ys) hy (Or.inl hst)
   refine Gives.cast (rfloor_w2 w s t p q n c m d xs ys h h' _ _ _ _ rfl rfl rfl hR dR hy (by omega) (fun e => h0 ((sg_sign0 s _).1 e)) ((sg_sign_eq h0 hy).2 hst)) ?_
   rw [← e1]
   unfold rm
   rw [e1, hR]
  ·obtain ⟨e1, e2⟩ := floor_up s t (val xs) (val ys) hy hst h0
   refine Gives.cast (rfloor_w3 w s t p q n c m d xs ys h h' _ _ _ _ rfl rfl rfl hR dR hy (by omega) (fun e => h0 ((sg_sign0 s _).1 e)) (fun e => hst ((sg_sign_eq h0 hy).1 e))) ?_
   have f1 : sg (s != t) (val xs / val ys) - 1 = fl (sg s (val xs)) (sg t (val ys)) := by
    rw [e1]
    have : (s != t) = true := by simpa using hst
    rw [this]
    simp only [sg, if_true]
    omega
   rw [f1]
   unfold rm
   rw [← f1, ← hR, Int.sub_mul]
   congr 2
   omega


end Go.Proofs.Ytcbkmmkmffnfdaa

/-
 zint's quotients: Floor, Near, Exact, whole.
-/
namespace Go.Proofs.Ytcbkmmkmffnfdaa
open Go Go.RowKit Nt
set_option linter.unusedSimpArgs false
set_option linter.unusedVariables false


theorem zv_ne {t : Bool} {ys : List Nat} {B : Int} (e : sg t (val ys) = B) (hB : B ≠ 0) : val ys ≠ 0 := fun h => hB (by rw [← e, h]; cases t <;> rfl)
theorem g_zfloor {A B : Int} {ka kb : Nat} (hB : B ≠ 0) (hk : ka + 1 ≤ 70368744177663) (hk' : kb ≤ 70368744177663) : ∀ w u v, Zv A ka u w → Zv B kb v w → Calls Try.prog 22 #[u, v] w (Gives (THREE (ZN (fl A B)) (ZN (rm A B)) (IS (.int .i64 0))) w) := by
 rintro w u v ⟨s, p, n, c, xs, rfl, h, rfl, hn⟩ ⟨t, q, m, d, ys, rfl, h', rfl, hm⟩
 refine (zfloor_c w s t p q n c m d xs ys h h' (zv_ne rfl hB) (by omega) (by omega)).mono ?_
 rintro e w' ⟨bq, Lq, Dq, rq, cq, br, Lr, Dr, rr, cr, rfl, hb, S1, S2, N1, N2, _, _, f1, f2⟩
 exact ⟨_, rfl, hb, _, _, _, rfl, nm_zn N1.out S1.out f1.out, nm_zn N2.out S2.out f2.out, rfl⟩
theorem rm_bounds {A B : Int} (hB : B ≠ 0) : A = fl A B * B + rm A B ∧ (0 < B → 0 ≤ rm A B ∧ rm A B < B) ∧ (B < 0 → B < rm A B ∧ rm A B ≤ 0) := by
 unfold rm
 refine ⟨by omega, fun hp => ?_, fun hp => ?_⟩
 ·unfold fl
  rw [if_pos hp]
  have h1 := Int.emod_nonneg A (by omega : B ≠ 0)
  have h2 := Int.emod_lt_of_pos A hp
  have h3 := Int.mul_ediv_add_emod A B
  rw [Int.mul_comm] at h3
  omega
 ·unfold fl
  rw [if_neg (by omega)]
  have h1 := Int.emod_nonneg (-A) (by omega : -B ≠ 0)
  have h2 := Int.emod_lt_of_pos (-A) (by omega : 0 < -B)
  have h3 := Int.mul_ediv_add_emod (-A) (-B)
  rw [Int.mul_comm, Int.mul_neg] at h3
  omega
theorem fl_abs {A B : Int} (hB : B ≠ 0) : (fl A B).natAbs ≤ A.natAbs + 1 := by
 obtain ⟨e, h1, h2⟩ := rm_bounds (A := A) hB
 have key : (fl A B * B).natAbs ≤ A.natAbs + (rm A B).natAbs := by omega
 have hr : (rm A B).natAbs < B.natAbs := by
  rcases Int.lt_or_gt_of_ne hB with hp | hp
  ·have := h2 hp; omega
  ·have := h1 hp; omega
 rw [Int.natAbs_mul] at key
 obtain ⟨f, hf⟩ : ∃ f, (fl A B).natAbs = f := ⟨_, rfl⟩
 obtain ⟨b, hb⟩ : ∃ b, B.natAbs = b := ⟨_, rfl⟩
 rw [hf, hb] at key
 rw [hb] at hr
 rw [hf]
 apply Classical.byContradiction
 intro hc
 obtain ⟨k, rfl⟩ : ∃ k, f = A.natAbs + 2 + k := ⟨f - (A.natAbs + 2), by omega⟩
 have h3 : (A.natAbs + 2 + k) * b = A.natAbs * b + 2 * b + k * b := by rw [Nat.add_mul, Nat.add_mul]
 have h4 : A.natAbs * 1 ≤ A.natAbs * b := Nat.mul_le_mul_left _ (by omega)
 omega
theorem fl_len {A B : Int} {n : Nat} (hB : B ≠ 0) (h : (digs A.natAbs).length ≤ n) : (digs (fl A B).natAbs).length ≤ n + 1 := by
 refine Nat.le_trans (digs_length_mono (fl_abs hB)) ?_
 by_cases hn : n = 0
 ·subst hn
  have : A.natAbs = 0 := (digs_length_zero _).1 (by omega)
  rw [this]
  exact digs_length_le (by omega)
 ·refine digs_add_len h (Nat.le_trans (digs_length_le (k := 1) (by omega)) (by omega))

end Go.Proofs.Ytcbkmmkmffnfdaa
