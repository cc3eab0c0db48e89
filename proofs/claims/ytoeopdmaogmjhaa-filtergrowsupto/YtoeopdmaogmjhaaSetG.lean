import Derived.Test.YtoeopdmaogmjhaaSetQ
import Derived.Test.YtoeopdmaogmjhaaSetI
/-
 The document's quotients: Floor, Near, Exact.
-/
namespace Go.Proofs.Ytoeopdmaogmjhaa
open Go Go.RowKit Nt
set_option linter.unusedSimpArgs false
set_option linter.unusedVariables false
set_option maxRecDepth 20000

theorem rm_le {A B : Int} (hB : B ≠ 0) : (rm A B).natAbs ≤ B.natAbs := by
 unfold rm fl
 by_cases hp : 0 < B
 ·rw [if_pos hp]
  have h1 := Int.emod_nonneg A (by omega : B ≠ 0)
  have h2 := Int.emod_lt_of_pos A hp
  have h3 := Int.mul_ediv_add_emod A B
  rw [Int.mul_comm] at h3
  omega
 ·rw [if_neg hp]
  have h1 := Int.emod_nonneg (-A) (by omega : -B ≠ 0)
  have h2 := Int.emod_lt_of_pos (-A) (by omega : 0 < -B)
  have h3 := Int.mul_ediv_add_emod (-A) (-B)
  rw [Int.mul_comm, Int.mul_neg] at h3
  omega

end Go.Proofs.Ytoeopdmaogmjhaa

/-
 zint's quotients: Floor, Near, Exact, whole.
-/
namespace Go.Proofs.Ytoeopdmaogmjhaa
open Go Go.RowKit Nt
set_option linter.unusedSimpArgs false
set_option linter.unusedVariables false
set_option maxRecDepth 20000


theorem zv_ne {t : Bool} {ys : List Nat} {B : Int} (e : sg t (val ys) = B) (hB : B ≠ 0) : val ys ≠ 0 := fun h => hB (by rw [← e, h]; cases t <;> rfl)
theorem g_zfloor {A B : Int} {ka kb : Nat} (hB : B ≠ 0) (hk : ka + 1 ≤ 70368744177663) (hk' : kb ≤ 70368744177663) : ∀ w u v, Zv A ka u w → Zv B kb v w → Calls Try.prog 40 #[u, v] w (Gives (THREE (ZN (fl A B)) (ZN (rm A B)) (IS (.int .i64 0))) w) := by
 rintro w u v ⟨s, p, n, c, xs, rfl, h, rfl, hn⟩ ⟨t, q, m, d, ys, rfl, h', rfl, hm⟩
 refine (zfloor_c w s t p q n c m d xs ys h h' (zv_ne rfl hB) (by omega) (by omega)).mono ?_
 rintro e w' ⟨bq, Lq, Dq, rq, cq, br, Lr, Dr, rr, cr, rfl, hb, S1, S2, N1, N2, _, _, f1, f2⟩
 exact ⟨_, rfl, hb, _, _, _, rfl, nm_zn N1.out S1.out f1.out, nm_zn N2.out S2.out f2.out, rfl⟩
theorem rm_bounds {A B : Int} (hB : B ≠ 0) : A = fl A B * B + rm A B ∧ (0 < B → 0 ≤ rm A B ∧ rm A B < B) ∧ (B < 0 → B < rm A B ∧ rm A B ≤ 0) := by
 unfold rm
 refine ⟨by omega, fun hp => ?_, fun hp => ?_⟩
 ·unfold fl
  rw [if_pos hp]
  have h1 := Int.emod_nonneg A (by omega : B ≠ 0)
  have h2 := Int.emod_lt_of_pos A hp
  have h3 := Int.mul_ediv_add_emod A B
  rw [Int.mul_comm] at h3
  omega
 ·unfold fl
  rw [if_neg (by omega)]
  have h1 := Int.emod_nonneg (-A) (by omega : -B ≠ 0)
  have h2 := Int.emod_lt_of_pos (-A) (by omega : 0 < -B)
  have h3 := Int.mul_ediv_add_emod (-A) (-B)
  rw [Int.mul_comm, Int.mul_neg] at h3
  omega
/-- The nearest whole number. -/
def nr (A B : Int) : Int := fl (2 * A + B) (2 * B)
theorem near_up {A B : Int} (hB : B ≠ 0) (h : B.natAbs ≤ 2 * (rm A B).natAbs) : fl A B + 1 = nr A B := by
 obtain ⟨e, h1, h2⟩ := rm_bounds (A := A) hB
 refine (fl_unique (r := 2 * rm A B - B) (by omega) ?_ (fun hp => ?_) (fun hp => ?_)).1.symm
 ·rw [Int.add_mul]
  have : fl A B * (2 * B) = 2 * (fl A B * B) := by rw [← Int.mul_assoc, Int.mul_comm (fl A B) 2, Int.mul_assoc]
  omega
 ·have := h1 (by omega); omega
 ·have := h2 (by omega); omega
theorem near_down {A B : Int} (hB : B ≠ 0) (h : 2 * (rm A B).natAbs < B.natAbs) : fl A B = nr A B := by
 obtain ⟨e, h1, h2⟩ := rm_bounds (A := A) hB
 refine (fl_unique (r := 2 * rm A B + B) (by omega) ?_ (fun hp => ?_) (fun hp => ?_)).1.symm
 ·have : fl A B * (2 * B) = 2 * (fl A B * B) := by rw [← Int.mul_assoc, Int.mul_comm (fl A B) 2, Int.mul_assoc]
  omega
 ·have := h1 (by omega); omega
 ·have := h2 (by omega); omega
theorem cmpN_ge0 {x y : Nat} (h : y ≤ x) : 0 ≤ cmpN x y := by unfold cmpN; split; omega; split <;> omega
theorem cmpN_lt0 {x y : Nat} (h : x < y) : cmpN x y < 0 := by unfold cmpN; rw [if_pos h]; omega

theorem fl_abs {A B : Int} (hB : B ≠ 0) : (fl A B).natAbs ≤ A.natAbs + 1 := by
 obtain ⟨e, h1, h2⟩ := rm_bounds (A := A) hB
 have key : (fl A B * B).natAbs ≤ A.natAbs + (rm A B).natAbs := by omega
 have hr : (rm A B).natAbs < B.natAbs := by
  rcases Int.lt_or_gt_of_ne hB with hp | hp
  ·have := h2 hp; omega
  ·have := h1 hp; omega
 rw [Int.natAbs_mul] at key
 obtain ⟨f, hf⟩ : ∃ f, (fl A B).natAbs = f := ⟨_, rfl⟩
 obtain ⟨b, hb⟩ : ∃ b, B.natAbs = b := ⟨_, rfl⟩
 rw [hf, hb] at key
 rw [hb] at hr
 rw [hf]
 apply Classical.byContradiction
 intro hc
 obtain ⟨k, rfl⟩ : ∃ k, f = A.natAbs + 2 + k := ⟨f - (A.natAbs + 2), by omega⟩
 have h3 : (A.natAbs + 2 + k) * b = A.natAbs * b + 2 * b + k * b := by rw [Nat.add_mul, Nat.add_mul]
 have h4 : A.natAbs * 1 ≤ A.natAbs * b := Nat.mul_le_mul_left _ (by omega)
 omega
theorem fl_len {A B : Int} {n : Nat} (hB : B ≠ 0) (h : (digs A.natAbs).length ≤ n) : (digs (fl A B).natAbs).length ≤ n + 1 := by
 refine Nat.le_trans (digs_length_mono (fl_abs hB)) ?_
 by_cases hn : n = 0
 ·subst hn
  have : A.natAbs = 0 := (digs_length_zero _).1 (by omega)
  rw [this]
  exact digs_length_le (by omega)
 ·refine digs_add_len h (Nat.le_trans (digs_length_le (k := 1) (by omega)) (by omega))

abbrev qvl700 (w : World) (A : Int) (B : Int) : Rk := .box 29 ((ZN (rm A B)) w.heap.size)
abbrev qvl701 (w : World) (A : Int) (B : Int) : Rk := .box 29 ((ZN ((fl A B) + 1)) w.heap.size)
abbrev qvl702  : Rk := .box 29 zI
set_option maxHeartbeats 400000 in
theorem znear_w1 (w : World) (s t : Bool) (p q : Option Addr) (n c m d : Nat) (xs ys : List Nat) (h : Sl w p n c xs) (h' : Sl w q m d ys) (A B : Int) (eA : sg s (val xs) = A) (eB : sg t (val ys) = B) (hB : B ≠ 0) (hc : 0 ≤ cmpN ((rm A B).natAbs + (rm A B).natAbs) (val ys)) (hs : n + m + 9 ≤ 35184372088831) :
  Calls Try.prog 23 #[.agg #[.bool s, .slice p n c], .agg #[.bool t, .slice q m d]] w (Gives (TWO (ZN (fl A B + 1)) (IS (.int .i64 0))) w) := by
 have dA : (digs A.natAbs).length ≤ n := by rw [← eA]; exact sg_dl h
 have dB : (digs B.natAbs).length ≤ m := by rw [← eB]; exact sg_dl h'
 have dR : (digs (rm A B).natAbs).length ≤ m := Nat.le_trans (digs_length_mono (rm_le hB)) dB
 have dF : (digs (fl A B).natAbs).length ≤ n + 1 := fl_len hB dA
 have d1 : (digs (1 : Int).natAbs).length ≤ 1 := dl_small (by decide)
 refine calls_sta (sl := [(0, (Zx s p n c xs)), (1, (Zx t q m d ys))]) Try.func23 rfl Try.ntmps23 (by simp) (args_cons rfl (zx_has h) (args_cons rfl (zx_has h') args_nil)) ?_
 intro a0 S0
 refine wq [.new (.box 29 (Zx s p n c xs)), .new (.box 29 (Zx t q m d ys)), .new (qvl702), .val (iV 0)] [.inl 0, .inl 1, .inl 2] [.inl 3] S0 ?_ ?_
 ·apply jj4
  ·exact owe_box rfl wA rfl (oS 0 0) rfl (fun ρ w h => box_int shp_zx ρ _ _ w h)
  ·exact owe_box rfl wA rfl (oS 1 1) rfl (fun ρ w h => box_int shp_zx ρ _ _ w h)
  ·exact owe_new rfl wA rfl rfl (fun ρ w => alloc_int ρ _ w)
  ·exact mC
 intro _ a1 _ (S1 : Sta w 33 [(2, (.box 29 (Zx s p n c xs))), (3, (.box 29 (Zx t q m d ys))), (4, (qvl702))] [(5, iV 0)] _ _ _)
 refine wq [.val (Zx s p n c xs), .val (Zx t q m d ys), .val ((THREE (ZN (fl A B)) (ZN (rm A B)) (IS (.int .i64 0))) w.heap.size), .val ((THREE (ZN (fl A B)) (ZN (rm A B)) (IS (.int .i64 0))) w.heap.size), .val ((ZN (fl A B)) w.heap.size), .val ((ZN (rm A B)) w.heap.size), .val (iV 0), .new (qvl702), .new (qvl702), .put (.inr 7) (.box 29 ((ZN (fl A B)) w.heap.size)), .put (.inr 8) (qvl700 w A B), .val (iV 0)] [.inr 0, .inr 1, .inr 2, .inl 7, .inl 8] [.inl 11, .inr 0] S1 ?_ ?_
 ·repeat' refine And.intro ?_ ?_
  ·trivial
  ·exact lod 0 wA (loads_of strct_int shp_zx)
  ·exact lod 1 wA (loads_of strct_int shp_zx)
  ·exact cc2 wA (qO 0 10 rfl) (qO 1 11 rfl) (fresh_three (fresh_zn _) (fresh_zn _) (fresh_is _)) (fun w u v h1 h2 => g_zfloor hB (by omega) (by omega) w u v ((zx_zv' eA (Nat.le_refl _)) _ _ h1) ((zx_zv' eB (Nat.le_refl _)) _ _ h2))
  ·exact mO 2 12
  ·exact e30 wA (oO 3 9)
  ·exact e31 wA (oO 3 9)
  ·exact e32 wA (oO 3 9)
  ·exact owe_new rfl wA rfl rfl (fun ρ w => alloc_int ρ _ w)
  ·exact owe_new rfl wA rfl rfl (fun ρ w => alloc_int ρ _ w)
  ·exact owe_put 7 rfl wA rfl (by kernel_rfl) rfl (oO 4 13) (stores_of strct_int shp_z0 shp_zn) rfl
  ·exact owe_put 8 rfl wA rfl (by kernel_rfl) rfl (oO 5 14) (stores_of strct_int shp_z0 shp_zn) rfl
  ·exact mO 6 15
 intro _ a2 _ (S2 : Sta w 33 [(2, (.box 29 (Zx s p n c xs))), (3, (.box 29 (Zx t q m d ys))), (4, (qvl702)), (6, (.box 29 ((ZN (fl A B)) w.heap.size))), (7, (qvl700 w A B))] [(8, iV 0), (5, iV 0)] _ _ _)
 refine wp_seq ?_
 refine wq [.val (iV 0), kF] [.inr 0, .inr 1, .inr 2, .inr 3, .inr 4] [.inl 1, .inr 0, .inr 1] S2 ?_ ?_
 ·apply jj2
  ·exact mS 0 8
  ·exact b_neq_errno_f wA (oO 0 16) (opnd_const _) (h := rfl)
 intro _ a3 _ (S3 : Sta w 33 [(2, (.box 29 (Zx s p n c xs))), (3, (.box 29 (Zx t q m d ys))), (4, (qvl702)), (6, (.box 29 ((ZN (fl A B)) w.heap.size))), (7, (qvl700 w A B))] [(17, bF), (8, iV 0), (5, iV 0)] _ _ _)
 refine wp_cond_false (S3.bool 0 17 rfl) (wp_skip (thenN (wp_seq ?_)))
 refine wq [.val (Part a3 7 1), .val ((NN ((rm A B).natAbs)) w.heap.size), .val (Part a3 7 1), .val ((NN ((rm A B).natAbs)) w.heap.size), .val ((NN (((rm A B).natAbs) + ((rm A B).natAbs))) w.heap.size), .val (Part a3 3 1), .val (Nx q m d ys), .val (Is (.int .i64 (cmpN (((rm A B).natAbs) + ((rm A B).natAbs)) (val ys)))), kT] [.inr 0, .inr 1, .inr 2, .inr 3, .inr 4] [.inl 8, .inr 0, .inr 1, .inr 2] S3 ?_ ?_
 ·repeat' refine And.intro ?_ ?_
  ·trivial
  ·exact owe_part rfl wA rfl (k := 4) rfl (by kernel_rfl) rfl (fun ρ w b h => part_int1 ρ _ _ w b 0 h)
  ·exact owe_pload rfl wA rfl (oO 0 20) (k := 4) rfl (by kernel_rfl) rfl (fun ρ w b u h1 h2 h3 => pload_mag zn_mag ρ _ _ w b u h1 h2 h3)
  ·exact owe_part rfl wA rfl (k := 4) rfl (by kernel_rfl) rfl (fun ρ w b h => part_int1 ρ _ _ w b 0 h)
  ·exact owe_pload rfl wA rfl (oO 2 22) (k := 4) rfl (by kernel_rfl) rfl (fun ρ w b u h1 h2 h3 => pload_mag zn_mag ρ _ _ w b u h1 h2 h3)
  ·exact cc2 wA (qO 1 21 rfl) (qO 3 23 rfl) (fresh_nn _) (fun w u v h1 h2 => g_add (by omega) (by omega) w u v ((nn_nv dR) _ _ h1) ((nn_nv dR) _ _ h2))
  ·exact owe_part rfl wA rfl (k := 1) rfl (by kernel_rfl) rfl (fun ρ w b h => part_int1 ρ _ _ w b 0 h)
  ·exact owe_pload rfl wA rfl (oO 5 25) (k := 1) rfl (by kernel_rfl) rfl (fun ρ w b u h1 h2 h3 => pload_mag zx_mag ρ _ _ w b u h1 h2 h3)
  ·exact cc2 wA (qO 4 24 rfl) (qO 6 26 rfl) (fresh_is _) (fun w u v h1 h2 => g_cmp  w u v ((nn_nv (Nat.le_refl _)) _ _ h1) ((nx_nv (Nat.le_refl _)) _ _ h2))
  ·exact b_geq_int_t wA (oO 7 27) (opnd_const _) (h := hc)
 intro _ a4 _ (S4 : Sta w 33 [(2, (.box 29 (Zx s p n c xs))), (3, (.box 29 (Zx t q m d ys))), (4, (qvl702)), (6, (.box 29 ((ZN (fl A B)) w.heap.size))), (7, (qvl700 w A B))] [(28, bT), (17, bF), (8, iV 0), (5, iV 0)] _ _ _)
 refine wp_cond_true (S4.bool 0 28 rfl) ?_
 refine wr [.val ((ZN (fl A B)) w.heap.size), .val ((ZN (1)) w.heap.size), .val ((ZN ((fl A B) + 1)) w.heap.size), .put (.inl 6) (qvl701 w A B)] [.inr 0, .inr 1, .inr 2, .inr 3, .inr 4] [.inr 0, .inr 1, .inr 2, .inr 3] S4 ?_ ?_
 ·apply jj4
  ·exact lod 3 wA (loads_of strct_int shp_zn)
  ·exact cc1 wA (opnd_const _) (fresh_zn _) (g_zof 1 (by omega) (by omega))
  ·exact cc2 wA (qO 0 29 rfl) (qO 1 30 rfl) (fresh_zn _) (fun w u v h1 h2 => g_zadd (by omega) (by omega) w u v ((zn_zv dF) _ _ h1) ((zn_zv d1) _ _ h2))
  ·exact owe_set rfl wA rfl (k := 3) rfl (by kernel_rfl) (oO 2 31) (stores_of strct_int shp_zn shp_zn) rfl
 intro _ a5 _ (S5 : Sta w 33 [(2, (.box 29 (Zx s p n c xs))), (3, (.box 29 (Zx t q m d ys))), (4, (qvl702)), (6, (qvl701 w A B)), (7, (qvl700 w A B))] [(28, bT), (17, bF), (8, iV 0), (5, iV 0)] _ _ _)
 refine thenN ?_
 refine wq [.val ((ZN ((fl A B) + 1)) w.heap.size), .put (.inl 4) (qvl701 w A B), .val (iV 0)] [.inr 0, .inr 1, .inr 2, .inr 3, .inr 4] [.inl 2, .inr 0, .inr 1, .inr 2] S5 ?_ ?_
 ·apply jj3
  ·exact lod 3 wA (loads_of strct_int shp_zn)
  ·exact owe_set rfl wA rfl (k := 2) rfl (by kernel_rfl) (oO 0 32) (stores_of strct_int shp_z0 shp_zn) rfl
  ·exact mC
 intro _ a6 _ (S6 : Sta w 33 [(2, (.box 29 (Zx s p n c xs))), (3, (.box 29 (Zx t q m d ys))), (4, (qvl701 w A B)), (6, (qvl701 w A B)), (7, (qvl700 w A B))] [(5, iV 0), (28, bT), (17, bF), (8, iV 0)] _ _ _)
 refine wp_ret ?_
 exact end_two S6 rfl (res_cell S6 2 4 rfl strct_int shp_zn) (res_tmp S6 0 5 rfl)

abbrev qka7q0 (w : World) (A : Int) (B : Int) : Rk := .box 29 ((ZN (fl A B)) w.heap.size)
abbrev qka7q1  : Rk := .box 29 zI
abbrev qka7q2 (w : World) (A : Int) (B : Int) : Rk := .box 29 ((ZN (rm A B)) w.heap.size)
set_option maxHeartbeats 400000 in
theorem znear_w2 (w : World) (s t : Bool) (p q : Option Addr) (n c m d : Nat) (xs ys : List Nat) (h : Sl w p n c xs) (h' : Sl w q m d ys) (A B : Int) (eA : sg s (val xs) = A) (eB : sg t (val ys) = B) (hB : B ≠ 0) (hc : cmpN ((rm A B).natAbs + (rm A B).natAbs) (val ys) < 0) (hs : n + m + 9 ≤ 35184372088831) :
  Calls Try.prog 23 #[.agg #[.bool s, .slice p n c], .agg #[.bool t, .slice q m d]] w (Gives (TWO (ZN (fl A B)) (IS (.int .i64 0))) w) := by
 have dA : (digs A.natAbs).length ≤ n := by rw [← eA]; exact sg_dl h
 have dB : (digs B.natAbs).length ≤ m := by rw [← eB]; exact sg_dl h'
 have dR : (digs (rm A B).natAbs).length ≤ m := Nat.le_trans (digs_length_mono (rm_le hB)) dB
 have dF : (digs (fl A B).natAbs).length ≤ n + 1 := fl_len hB dA
 have d1 : (digs (1 : Int).natAbs).length ≤ 1 := dl_small (by decide)
 refine calls_sta (sl := [(0, (Zx s p n c xs)), (1, (Zx t q m d ys))]) Try.func23 rfl Try.ntmps23 (by simp) (args_cons rfl (zx_has h) (args_cons rfl (zx_has h') args_nil)) ?_
 intro a0 S0
 refine wq [.new (.box 29 (Zx s p n c xs)), .new (.box 29 (Zx t q m d ys)), .new (qka7q1), .val (iV 0)] [.inl 0, .inl 1, .inl 2] [.inl 3] S0 ?_ ?_
 ·apply jj4
  ·exact owe_box rfl wA rfl (oS 0 0) rfl (fun ρ w h => box_int shp_zx ρ _ _ w h)
  ·exact owe_box rfl wA rfl (oS 1 1) rfl (fun ρ w h => box_int shp_zx ρ _ _ w h)
  ·exact owe_new rfl wA rfl rfl (fun ρ w => alloc_int ρ _ w)
  ·exact mC
 intro _ a1 _ (S1 : Sta w 33 [(2, (.box 29 (Zx s p n c xs))), (3, (.box 29 (Zx t q m d ys))), (4, (qka7q1))] [(5, iV 0)] _ _ _)
 refine wq [.val (Zx s p n c xs), .val (Zx t q m d ys), .val ((THREE (ZN (fl A B)) (ZN (rm A B)) (IS (.int .i64 0))) w.heap.size), .val ((THREE (ZN (fl A B)) (ZN (rm A B)) (IS (.int .i64 0))) w.heap.size), .val ((ZN (fl A B)) w.heap.size), .val ((ZN (rm A B)) w.heap.size), .val (iV 0), .new (qka7q1), .new (qka7q1), .put (.inr 7) (qka7q0 w A B), .put (.inr 8) (qka7q2 w A B), .val (iV 0)] [.inr 0, .inr 1, .inr 2, .inl 7, .inl 8] [.inl 11, .inr 0] S1 ?_ ?_
 ·repeat' refine And.intro ?_ ?_
  ·trivial
  ·exact lod 0 wA (loads_of strct_int shp_zx)
  ·exact lod 1 wA (loads_of strct_int shp_zx)
  ·exact cc2 wA (qO 0 10 rfl) (qO 1 11 rfl) (fresh_three (fresh_zn _) (fresh_zn _) (fresh_is _)) (fun w u v h1 h2 => g_zfloor hB (by omega) (by omega) w u v ((zx_zv' eA (Nat.le_refl _)) _ _ h1) ((zx_zv' eB (Nat.le_refl _)) _ _ h2))
  ·exact mO 2 12
  ·exact e30 wA (oO 3 9)
  ·exact e31 wA (oO 3 9)
  ·exact e32 wA (oO 3 9)
  ·exact owe_new rfl wA rfl rfl (fun ρ w => alloc_int ρ _ w)
  ·exact owe_new rfl wA rfl rfl (fun ρ w => alloc_int ρ _ w)
  ·exact owe_put 7 rfl wA rfl (by kernel_rfl) rfl (oO 4 13) (stores_of strct_int shp_z0 shp_zn) rfl
  ·exact owe_put 8 rfl wA rfl (by kernel_rfl) rfl (oO 5 14) (stores_of strct_int shp_z0 shp_zn) rfl
  ·exact mO 6 15
 intro _ a2 _ (S2 : Sta w 33 [(2, (.box 29 (Zx s p n c xs))), (3, (.box 29 (Zx t q m d ys))), (4, (qka7q1)), (6, (qka7q0 w A B)), (7, (qka7q2 w A B))] [(8, iV 0), (5, iV 0)] _ _ _)
 refine wp_seq ?_
 refine wq [.val (iV 0), kF] [.inr 0, .inr 1, .inr 2, .inr 3, .inr 4] [.inl 1, .inr 0, .inr 1] S2 ?_ ?_
 ·apply jj2
  ·exact mS 0 8
  ·exact b_neq_errno_f wA (oO 0 16) (opnd_const _) (h := rfl)
 intro _ a3 _ (S3 : Sta w 33 [(2, (.box 29 (Zx s p n c xs))), (3, (.box 29 (Zx t q m d ys))), (4, (qka7q1)), (6, (qka7q0 w A B)), (7, (qka7q2 w A B))] [(17, bF), (8, iV 0), (5, iV 0)] _ _ _)
 refine wp_cond_false (S3.bool 0 17 rfl) (wp_skip (thenN (wp_seq ?_)))
 refine wq [.val (Part a3 7 1), .val ((NN ((rm A B).natAbs)) w.heap.size), .val (Part a3 7 1), .val ((NN ((rm A B).natAbs)) w.heap.size), .val ((NN (((rm A B).natAbs) + ((rm A B).natAbs))) w.heap.size), .val (Part a3 3 1), .val (Nx q m d ys), .val (Is (.int .i64 (cmpN (((rm A B).natAbs) + ((rm A B).natAbs)) (val ys)))), kF] [.inr 0, .inr 1, .inr 2, .inr 3, .inr 4] [.inl 8, .inr 0, .inr 1, .inr 2] S3 ?_ ?_
 ·repeat' refine And.intro ?_ ?_
  ·trivial
  ·exact owe_part rfl wA rfl (k := 4) rfl (by kernel_rfl) rfl (fun ρ w b h => part_int1 ρ _ _ w b 0 h)
  ·exact owe_pload rfl wA rfl (oO 0 20) (k := 4) rfl (by kernel_rfl) rfl (fun ρ w b u h1 h2 h3 => pload_mag zn_mag ρ _ _ w b u h1 h2 h3)
  ·exact owe_part rfl wA rfl (k := 4) rfl (by kernel_rfl) rfl (fun ρ w b h => part_int1 ρ _ _ w b 0 h)
  ·exact owe_pload rfl wA rfl (oO 2 22) (k := 4) rfl (by kernel_rfl) rfl (fun ρ w b u h1 h2 h3 => pload_mag zn_mag ρ _ _ w b u h1 h2 h3)
  ·exact cc2 wA (qO 1 21 rfl) (qO 3 23 rfl) (fresh_nn _) (fun w u v h1 h2 => g_add (by omega) (by omega) w u v ((nn_nv dR) _ _ h1) ((nn_nv dR) _ _ h2))
  ·exact owe_part rfl wA rfl (k := 1) rfl (by kernel_rfl) rfl (fun ρ w b h => part_int1 ρ _ _ w b 0 h)
  ·exact owe_pload rfl wA rfl (oO 5 25) (k := 1) rfl (by kernel_rfl) rfl (fun ρ w b u h1 h2 h3 => pload_mag zx_mag ρ _ _ w b u h1 h2 h3)
  ·exact cc2 wA (qO 4 24 rfl) (qO 6 26 rfl) (fresh_is _) (fun w u v h1 h2 => g_cmp  w u v ((nn_nv (Nat.le_refl _)) _ _ h1) ((nx_nv (Nat.le_refl _)) _ _ h2))
  ·exact b_geq_int_f wA (oO 7 27) (opnd_const _) (h := hc)
 intro _ a4 _ (S4 : Sta w 33 [(2, (.box 29 (Zx s p n c xs))), (3, (.box 29 (Zx t q m d ys))), (4, (qka7q1)), (6, (qka7q0 w A B)), (7, (qka7q2 w A B))] [(28, bF), (17, bF), (8, iV 0), (5, iV 0)] _ _ _)
 refine wp_cond_false (S4.bool 0 28 rfl) (wp_skip (thenN ?_))
 refine wq [.val ((ZN (fl A B)) w.heap.size), .put (.inl 4) (qka7q0 w A B), .val (iV 0)] [.inr 0, .inr 1, .inr 2, .inr 3, .inr 4] [.inl 2, .inr 0, .inr 1, .inr 2] S4 ?_ ?_
 ·apply jj3
  ·exact lod 3 wA (loads_of strct_int shp_zn)
  ·exact owe_set rfl wA rfl (k := 2) rfl (by kernel_rfl) (oO 0 32) (stores_of strct_int shp_z0 shp_zn) rfl
  ·exact mC
 intro _ a5 _ (S5 : Sta w 33 [(2, (.box 29 (Zx s p n c xs))), (3, (.box 29 (Zx t q m d ys))), (4, (qka7q0 w A B)), (6, (qka7q0 w A B)), (7, (qka7q2 w A B))] [(5, iV 0), (28, bF), (17, bF), (8, iV 0)] _ _ _)
 refine wp_ret ?_
 exact end_two S5 rfl (res_cell S5 2 4 rfl strct_int shp_zn) (res_tmp S5 0 5 rfl)

theorem g_znear {A B : Int} {ka kb : Nat} (hB : B ≠ 0) (hk : ka + kb + 9 ≤ 35184372088831) : ∀ w u v, Zv A ka u w → Zv B kb v w → Calls Try.prog 23 #[u, v] w (Gives (TWO (ZN (nr A B)) (IS (.int .i64 0))) w) := by
 rintro w u v ⟨s, p, n, c, xs, rfl, h, rfl, hn⟩ ⟨t, q, m, d, ys, rfl, h', rfl, hm⟩
 have ey := sg_abs t (val ys)
 by_cases hc : val ys ≤ 2 * (rm (sg s (val xs)) (sg t (val ys))).natAbs
 ·rw [← near_up hB (by rw [ey]; exact hc)]
  exact znear_w1 w s t p q n c m d xs ys h h' _ _ rfl rfl hB (cmpN_ge0 (by omega)) (by omega)
 ·rw [← near_down hB (by rw [ey]; omega)]
  exact znear_w2 w s t p q n c m d xs ys h h' _ _ rfl rfl hB (cmpN_lt0 (by omega)) (by omega)

abbrev qmna10  : Rk := .box 29 zI
set_option maxHeartbeats 400000 in
theorem zexact_w1 (w : World) (s t : Bool) (p q : Option Addr) (n c m d : Nat) (xs ys : List Nat) (h : Sl w p n c xs) (h' : Sl w q m d ys) (hy : val ys ≠ 0) (hl : (0 : Int) < (((digs (val xs % val ys)).length : Nat) : Int)) (hs : n + m + 9 ≤ 35184372088831) :
  Calls Try.prog 55 #[.agg #[.bool s, .slice p n c], .agg #[.bool t, .slice q m d]] w (Gives (TWO (IS (.agg #[.bool false, .slice none 0 0])) (IS (.int .i64 20))) w) := by
 refine calls_sta (sl := [(0, (Zx s p n c xs)), (1, (Zx t q m d ys))]) Try.func55 rfl Try.ntmps55 (by simp) (args_cons rfl (zx_has h) (args_cons rfl (zx_has h') args_nil)) ?_
 intro a0 S0
 refine wq [.new (.box 29 (Zx s p n c xs)), .new (.box 29 (Zx t q m d ys)), .new (qmna10), .val (iV 0)] [.inl 0, .inl 1, .inl 2] [.inl 3] S0 ?_ ?_
 ·apply jj4
  ·exact owe_box rfl wA rfl (oS 0 0) rfl (fun ρ w h => box_int shp_zx ρ _ _ w h)
  ·exact owe_box rfl wA rfl (oS 1 1) rfl (fun ρ w h => box_int shp_zx ρ _ _ w h)
  ·exact owe_new rfl wA rfl rfl (fun ρ w => alloc_int ρ _ w)
  ·exact mC
 intro _ a1 _ (S1 : Sta w 35 [(2, (.box 29 (Zx s p n c xs))), (3, (.box 29 (Zx t q m d ys))), (4, (qmna10))] [(5, iV 0)] _ _ _)
 refine wq [.val (Part a1 2 1), .val (Nx p n c xs), .val (Part a1 3 1), .val (Nx q m d ys), .val ((THREE (NN (val xs / val ys)) (NN (val xs % val ys)) (IS (.int .i64 0))) w.heap.size), .val ((THREE (NN (val xs / val ys)) (NN (val xs % val ys)) (IS (.int .i64 0))) w.heap.size), .val ((NN (val xs / val ys)) w.heap.size), .val ((NN (val xs % val ys)) w.heap.size), .val (iV 0), .val ((NN (val xs / val ys)) w.heap.size), .val ((NN (val xs % val ys)) w.heap.size), .val (iV 0)] [.inr 0, .inr 1, .inr 2] [.inl 9, .inl 10, .inl 11, .inr 0] S1 ?_ ?_
 ·repeat' refine And.intro ?_ ?_
  ·trivial
  ·exact owe_part rfl wA rfl (k := 0) rfl (by kernel_rfl) rfl (fun ρ w b h => part_int1 ρ _ _ w b 0 h)
  ·exact owe_pload rfl wA rfl (oO 0 10) (k := 0) rfl (by kernel_rfl) rfl (fun ρ w b u h1 h2 h3 => pload_mag zx_mag ρ _ _ w b u h1 h2 h3)
  ·exact owe_part rfl wA rfl (k := 1) rfl (by kernel_rfl) rfl (fun ρ w b h => part_int1 ρ _ _ w b 0 h)
  ·exact owe_pload rfl wA rfl (oO 2 12) (k := 1) rfl (by kernel_rfl) rfl (fun ρ w b u h1 h2 h3 => pload_mag zx_mag ρ _ _ w b u h1 h2 h3)
  ·exact cc2 wA (qO 1 11 rfl) (qO 3 13 rfl) (fresh_three (fresh_nn _) (fresh_nn _) (fresh_is _)) (fun w u v h1 h2 => g_div hy (by omega) w u v ((nx_nv (Nat.le_refl _)) _ _ h1) ((nx_nv (Nat.le_refl _)) _ _ h2))
  ·exact mO 4 14
  ·exact e30 wA (oO 5 9)
  ·exact e31 wA (oO 5 9)
  ·exact e32 wA (oO 5 9)
  ·exact mO 6 15
  ·exact mO 7 16
  ·exact mO 8 17
 intro _ a2 _ (S2 : Sta w 35 [(2, (.box 29 (Zx s p n c xs))), (3, (.box 29 (Zx t q m d ys))), (4, (qmna10))] [(6, ((NN (val xs / val ys)) w.heap.size)), (7, ((NN (val xs % val ys)) w.heap.size)), (8, iV 0), (5, iV 0)] _ _ _)
 refine wp_seq (wp_block ?_)
 refine wq [.val (iV 0), kF, kF] [.inr 0, .inr 1, .inr 2] [.inl 2, .inr 0, .inr 1, .inr 2, .inr 3] S2 ?_ ?_
 ·apply jj3
  ·exact mS 2 8
  ·exact b_neq_errno_f wA (oO 0 19) (opnd_const _) (h := rfl)
  ·exact mO 1 20
 intro _ a3 _ (S3 : Sta w 35 [(2, (.box 29 (Zx s p n c xs))), (3, (.box 29 (Zx t q m d ys))), (4, (qmna10))] [(18, bF), (6, ((NN (val xs / val ys)) w.heap.size)), (7, ((NN (val xs % val ys)) w.heap.size)), (8, iV 0), (5, iV 0)] _ _ _)
 refine wp_cond_false (S3.bool 0 18 rfl) ?_
 refine wq [.val ((NN (val xs % val ys)) w.heap.size), .val (Is (.int .i64 ((digs (val xs % val ys)).length : Nat))), kT, kT] [.inr 0, .inr 1, .inr 2] [.inl 3, .inr 0, .inr 1, .inr 3, .inr 4] S3 ?_ ?_
 ·apply jj4
  ·exact mS 2 7
  ·exact owe_len rfl wA rfl (oO 0 24) nn_len Try.underlying27 rfl
  ·exact b_gtr_int_t wA (oO 1 25) (opnd_const _) (h := hl)
  ·exact mO 2 26
 intro _ a4 _ (S4 : Sta w 35 [(2, (.box 29 (Zx s p n c xs))), (3, (.box 29 (Zx t q m d ys))), (4, (qmna10))] [(23, bT), (18, bF), (6, ((NN (val xs / val ys)) w.heap.size)), (8, iV 0), (5, iV 0)] _ _ _)
 refine wp_cond_true (S4.bool 0 23 rfl) ?_
 refine wq [.val zI, .put (.inl 4) (qmna10), .val (iV 20)] [.inr 0, .inr 1, .inr 2] [.inl 2, .inr 0, .inr 1, .inr 2, .inr 3] S4 ?_ ?_
 ·apply jj3
  ·exact owe_build_int rfl wA rfl rfl
  ·exact owe_set rfl wA rfl (k := 2) rfl (by kernel_rfl) (oO 0 27) (stores_of strct_int shp_z0 shp_z0) rfl
  ·exact mC
 intro _ a5 _ (S5 : Sta w 35 [(2, (.box 29 (Zx s p n c xs))), (3, (.box 29 (Zx t q m d ys))), (4, (qmna10))] [(5, iV 20), (23, bT), (18, bF), (6, ((NN (val xs / val ys)) w.heap.size)), (8, iV 0)] _ _ _)
 refine wp_ret (inBlkR (thenR ?_))
 exact end_two S5 rfl (res_cell S5 2 4 rfl strct_int shp_z0) (res_tmp S5 0 5 rfl)

set_option maxHeartbeats 400000 in
theorem zexact_w2 (w : World) (s t : Bool) (p q : Option Addr) (n c m d : Nat) (xs ys : List Nat) (h : Sl w p n c xs) (h' : Sl w q m d ys) (hy : val ys ≠ 0) (hl : (((digs (val xs % val ys)).length : Nat) : Int) ≤ 0) (hs : n + m + 9 ≤ 35184372088831) :
  Calls Try.prog 55 #[.agg #[.bool s, .slice p n c], .agg #[.bool t, .slice q m d]] w (Gives (TWO (ZN (sg (s != t) (val xs / val ys))) (IS (.int .i64 0))) w) := by
 refine calls_sta (sl := [(0, (Zx s p n c xs)), (1, (Zx t q m d ys))]) Try.func55 rfl Try.ntmps55 (by simp) (args_cons rfl (zx_has h) (args_cons rfl (zx_has h') args_nil)) ?_
 intro a0 S0
 refine wq [.new (.box 29 (Zx s p n c xs)), .new (.box 29 (Zx t q m d ys)), .new (.box 29 zI), .val (iV 0)] [.inl 0, .inl 1, .inl 2] [.inl 3] S0 ?_ ?_
 ·apply jj4
  ·exact owe_box rfl wA rfl (oS 0 0) rfl (fun ρ w h => box_int shp_zx ρ _ _ w h)
  ·exact owe_box rfl wA rfl (oS 1 1) rfl (fun ρ w h => box_int shp_zx ρ _ _ w h)
  ·exact owe_new rfl wA rfl rfl (fun ρ w => alloc_int ρ _ w)
  ·exact mC
 intro _ a1 _ (S1 : Sta w 35 [(2, (.box 29 (Zx s p n c xs))), (3, (.box 29 (Zx t q m d ys))), (4, (.box 29 zI))] [(5, iV 0)] _ _ _)
 refine wq [.val (Part a1 2 1), .val (Nx p n c xs), .val (Part a1 3 1), .val (Nx q m d ys), .val ((THREE (NN (val xs / val ys)) (NN (val xs % val ys)) (IS (.int .i64 0))) w.heap.size), .val ((THREE (NN (val xs / val ys)) (NN (val xs % val ys)) (IS (.int .i64 0))) w.heap.size), .val ((NN (val xs / val ys)) w.heap.size), .val ((NN (val xs % val ys)) w.heap.size), .val (iV 0), .val ((NN (val xs / val ys)) w.heap.size), .val ((NN (val xs % val ys)) w.heap.size), .val (iV 0)] [.inr 0, .inr 1, .inr 2] [.inl 9, .inl 10, .inl 11, .inr 0] S1 ?_ ?_
 ·repeat' refine And.intro ?_ ?_
  ·trivial
  ·exact owe_part rfl wA rfl (k := 0) rfl (by kernel_rfl) rfl (fun ρ w b h => part_int1 ρ _ _ w b 0 h)
  ·exact owe_pload rfl wA rfl (oO 0 10) (k := 0) rfl (by kernel_rfl) rfl (fun ρ w b u h1 h2 h3 => pload_mag zx_mag ρ _ _ w b u h1 h2 h3)
  ·exact owe_part rfl wA rfl (k := 1) rfl (by kernel_rfl) rfl (fun ρ w b h => part_int1 ρ _ _ w b 0 h)
  ·exact owe_pload rfl wA rfl (oO 2 12) (k := 1) rfl (by kernel_rfl) rfl (fun ρ w b u h1 h2 h3 => pload_mag zx_mag ρ _ _ w b u h1 h2 h3)
  ·exact cc2 wA (qO 1 11 rfl) (qO 3 13 rfl) (fresh_three (fresh_nn _) (fresh_nn _) (fresh_is _)) (fun w u v h1 h2 => g_div hy (by omega) w u v ((nx_nv (Nat.le_refl _)) _ _ h1) ((nx_nv (Nat.le_refl _)) _ _ h2))
  ·exact mO 4 14
  ·exact e30 wA (oO 5 9)
  ·exact e31 wA (oO 5 9)
  ·exact e32 wA (oO 5 9)
  ·exact mO 6 15
  ·exact mO 7 16
  ·exact mO 8 17
 intro _ a2 _ (S2 : Sta w 35 [(2, (.box 29 (Zx s p n c xs))), (3, (.box 29 (Zx t q m d ys))), (4, (.box 29 zI))] [(6, ((NN (val xs / val ys)) w.heap.size)), (7, ((NN (val xs % val ys)) w.heap.size)), (8, iV 0), (5, iV 0)] _ _ _)
 refine wp_seq (wp_block ?_)
 refine wq [.val (iV 0), kF, kF] [.inr 0, .inr 1, .inr 2] [.inl 2, .inr 0, .inr 1, .inr 2, .inr 3] S2 ?_ ?_
 ·apply jj3
  ·exact mS 2 8
  ·exact b_neq_errno_f wA (oO 0 19) (opnd_const _) (h := rfl)
  ·exact mO 1 20
 intro _ a3 _ (S3 : Sta w 35 [(2, (.box 29 (Zx s p n c xs))), (3, (.box 29 (Zx t q m d ys))), (4, (.box 29 zI))] [(18, bF), (6, ((NN (val xs / val ys)) w.heap.size)), (7, ((NN (val xs % val ys)) w.heap.size)), (8, iV 0), (5, iV 0)] _ _ _)
 refine wp_cond_false (S3.bool 0 18 rfl) ?_
 refine wq [.val ((NN (val xs % val ys)) w.heap.size), .val (Is (.int .i64 ((digs (val xs % val ys)).length : Nat))), kF, kF] [.inr 0, .inr 1, .inr 2] [.inl 3, .inr 0, .inr 1, .inr 3, .inr 4] S3 ?_ ?_
 ·apply jj4
  ·exact mS 2 7
  ·exact owe_len rfl wA rfl (oO 0 24) nn_len Try.underlying27 rfl
  ·exact b_gtr_int_f wA (oO 1 25) (opnd_const _) (h := hl)
  ·exact mO 2 26
 intro _ a4 _ (S4 : Sta w 35 [(2, (.box 29 (Zx s p n c xs))), (3, (.box 29 (Zx t q m d ys))), (4, (.box 29 zI))] [(23, bF), (18, bF), (6, ((NN (val xs / val ys)) w.heap.size)), (8, iV 0), (5, iV 0)] _ _ _)
 refine wp_cond_false (S4.bool 0 23 rfl) (wp_skip (inBlkN (thenN ?_)))
 refine wq [.val (Part a4 2 0), .val (Is (.bool s)), .val (Part a4 3 0), .val (Is (.bool t)), .val (Is (.bool (s != t))), .val ((NN (val xs / val ys)) w.heap.size), .val ((ZN (sg (s != t) (val xs / val ys))) w.heap.size), .put (.inl 4) (.box 29 ((ZN (sg (s != t) (val xs / val ys))) w.heap.size)), .val (iV 0)] [.inr 0, .inr 1, .inr 2] [.inl 8, .inr 0, .inr 1, .inr 3] S4 ?_ ?_
 ·repeat' refine And.intro ?_ ?_
  ·trivial
  ·exact owe_part rfl wA rfl (k := 0) rfl (by kernel_rfl) rfl (fun ρ w b h => part_int0 ρ _ _ w b 0 h)
  ·exact owe_pload rfl wA rfl (oO 0 28) (k := 0) rfl (by kernel_rfl) rfl (fun ρ w b u h1 h2 h3 => pload_neg zx_neg ρ _ _ w b u h1 h2 h3)
  ·exact owe_part rfl wA rfl (k := 1) rfl (by kernel_rfl) rfl (fun ρ w b h => part_int0 ρ _ _ w b 0 h)
  ·exact owe_pload rfl wA rfl (oO 2 30) (k := 1) rfl (by kernel_rfl) rfl (fun ρ w b u h1 h2 h3 => pload_neg zx_neg ρ _ _ w b u h1 h2 h3)
  ·exact b_neq_bool wA (oO 1 29) (oO 3 31)
  ·exact mS 2 6
  ·exact owe_callF2 rfl wA rfl (oO 4 32) (oO 5 33) rfl (fun args w => by go_simp) g_signed
  ·exact owe_set rfl wA rfl (k := 2) rfl (by kernel_rfl) (oO 6 34) (stores_of strct_int shp_z0 shp_zn) rfl
  ·exact mC
 intro _ a5 _ (S5 : Sta w 35 [(2, (.box 29 (Zx s p n c xs))), (3, (.box 29 (Zx t q m d ys))), (4, (.box 29 ((ZN (sg (s != t) (val xs / val ys))) w.heap.size)))] [(5, iV 0), (23, bF), (18, bF), (8, iV 0)] _ _ _)
 refine wp_ret ?_
 exact end_two S5 rfl (res_cell S5 2 4 rfl strct_int shp_zn) (res_tmp S5 0 5 rfl)

theorem rm_zero {s t : Bool} {x y : Nat} (hy : y ≠ 0) : rm (sg s x) (sg t y) = 0 ↔ x % y = 0 := by
 by_cases h0 : x % y = 0
 ·rw [(floor_plain s t x y hy (Or.inr h0)).2, h0]
  constructor
  ·exact fun _ => rfl
  ·intro _; cases t <;> rfl
 ·have hlt := Nat.mod_lt x (Nat.pos_of_ne_zero hy)
  have : rm (sg s x) (sg t y) ≠ 0 := by
   by_cases hst : s = t
   ·rw [(floor_plain s t x y hy (Or.inl hst)).2]
    intro e
    have := sg_abs t (x % y)
    rw [e] at this
    exact h0 (by simpa using this.symm)
   ·rw [(floor_up s t x y hy hst h0).2]
    intro e
    have := sg_abs t (y - x % y)
    rw [e] at this
    simp at this
    omega
  exact ⟨fun e => absurd e this, fun e => absurd e h0⟩

theorem g_zexact1 {A B : Int} {ka kb : Nat} (hB : B ≠ 0) (hr : rm A B ≠ 0) (hk : ka + kb + 9 ≤ 35184372088831) : ∀ w u v, Zv A ka u w → Zv B kb v w → Calls Try.prog 55 #[u, v] w (Gives (TWO (IS (.agg #[.bool false, .slice none 0 0])) (IS (.int .i64 20))) w) := by
 rintro w u v ⟨s, p, n, c, xs, rfl, h, rfl, hn⟩ ⟨t, q, m, d, ys, rfl, h', rfl, hm⟩
 have hy := zv_ne (t := t) rfl hB
 have h0 : val xs % val ys ≠ 0 := fun e => hr ((rm_zero hy).2 e)
 have hl : (digs (val xs % val ys)).length ≠ 0 := fun e => h0 ((digs_length_zero _).1 e)
 exact zexact_w1 w s t p q n c m d xs ys h h' hy (by omega) (by omega)

theorem g_zexact2 {A B : Int} {ka kb : Nat} (hB : B ≠ 0) (hr : rm A B = 0) (hk : ka + kb + 9 ≤ 35184372088831) : ∀ w u v, Zv A ka u w → Zv B kb v w → Calls Try.prog 55 #[u, v] w (Gives (TWO (ZN (fl A B)) (IS (.int .i64 0))) w) := by
 rintro w u v ⟨s, p, n, c, xs, rfl, h, rfl, hn⟩ ⟨t, q, m, d, ys, rfl, h', rfl, hm⟩
 have hy := zv_ne (t := t) rfl hB
 have h0 : val xs % val ys = 0 := (rm_zero hy).1 hr
 rw [(floor_plain s t (val xs) (val ys) hy (Or.inr h0)).1]
 exact zexact_w2 w s t p q n c m d xs ys h h' hy (by rw [h0]; decide) (by omega)

end Go.Proofs.Ytoeopdmaogmjhaa
