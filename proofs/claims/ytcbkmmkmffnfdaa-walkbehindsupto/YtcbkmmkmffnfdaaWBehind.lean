/-
 The number behind another one in zig-zag order.
-/
import Derived.Test.YtcbkmmkmffnfdaaMkA
import Derived.Test.YtcbkmmkmffnfdaaRRoundsWalk
import Derived.Test.YtcbkmmkmffnfdaaTrV
namespace Go.Proofs.Ytcbkmmkmffnfdaa
open Go Go.RowKit Nt
set_option linter.unusedSimpArgs false
set_option linter.unusedVariables false


theorem zv_dlB {A : Int} {k : Nat} {u : Value} {w : World} (h : Zv A k u w) : (digs A.natAbs).length ≤ k := by
 obtain ⟨s, p, n, c, xs, rfl, h1, rfl, h2⟩ := h
 exact Nat.le_trans (sg_dl h1) h2
theorem beh_len {A X : Int} {D K : Nat} (hA : (digs A.natAbs).length ≤ K) (hX : (digs X.natAbs).length ≤ K) (hD : (digs ((D : Int)).natAbs).length ≤ K) :
  (digs (X * (D : Int)).natAbs).length ≤ 2 * K ∧ (digs (A - X * (D : Int)).natAbs).length ≤ 2 * K + 1 ∧ (digs (A + (A - X * (D : Int))).natAbs).length ≤ 2 * K + 2 := by
 have h1 : (digs (X * (D : Int)).natAbs).length ≤ 2 * K := by rw [Int.natAbs_mul]; exact Nat.le_trans (digs_mul_len hX hD) (by omega)
 have h2 : (digs (A - X * (D : Int)).natAbs).length ≤ 2 * K + 1 := digs_sub_len (Nat.le_trans hA (by omega)) h1
 refine ⟨h1, h2, ?_⟩
 have h3 := digs_sub_len (A := A) (B := -(A - X * (D : Int))) (k := 2 * K + 1) (Nat.le_trans hA (by omega)) (by rw [Int.natAbs_neg]; exact h2)
 rw [show A - -(A - X * (D : Int)) = A + (A - X * (D : Int)) from by omega] at h3
 exact h3

theorem beh_sign {A X : Int} {D : Nat} : (X * (D : Int) - A * ((1 : Nat) : Int)).sign = - (A - X * (D : Int)).sign := by
 rw [← Int.sign_neg]
 congr 1
 generalize X * (D : Int) = y
 omega


theorem g_rrcmpB {A N : Int} {D M k1 k2 k3 k4 : Nat} (hD : D ≠ 0) (hM : M ≠ 0) (b1 : k1 ≤ 8388608) (b2 : k2 ≤ 8388608) (b3 : k3 ≤ 8388608) (b4 : k4 ≤ 8388608) : ∀ w u v, Rv A (D : Int) k1 k2 u w → Rv N (M : Int) k3 k4 v w → Calls Try.prog 17 #[u, v] w (Gives (IS (.int .i64 (A * (M : Int) - N * (D : Int)).sign)) w) := by
 rintro w u v ⟨x0, x1, y0, y1, rfl, ⟨s, p, n, c, xs, ea, h, rfl, hn⟩, ⟨t, q, m, d, ys, eb, h', eD, hm⟩⟩ ⟨z0, z1, u0, u1, rfl, ⟨s', p', n', c', xs', ea', h2, rfl, hn'⟩, ⟨t', q', m', d', ys', eb', h2', eM, hm'⟩⟩
 simp at ea eb ea' eb'
 obtain ⟨rfl, rfl⟩ := ea
 obtain ⟨rfl, rfl⟩ := eb
 obtain ⟨rfl, rfl⟩ := ea'
 obtain ⟨rfl, rfl⟩ := eb'
 obtain ⟨rfl, rfl⟩ := zv_pos eD hD
 obtain ⟨rfl, rfl⟩ := zv_pos eM hM
 refine (rrcmp_c w s p n c xs q m d ys s' p' n' c' xs' q' m' d' ys' h h' h2 h2' hD hM (by omega) (by omega) (by omega) (by omega)).mono ?_
 rintro e w' ⟨rfl, hb⟩
 exact ⟨_, rfl, hb, rfl⟩

abbrev qwe3h0 (w : World) (A : Int) (X : Int) (D : Nat) : Rk := .box 24 ((ZN (fl (A + (A - (X * (D : Int)))) ((D : Int)))) w.heap.size)
abbrev qwe3h1  : Rk := .box 24 zI
abbrev qwe3h2 (A : Int) (D : Nat) (K : Nat) : Rk := .box 26 (PR (Zv A K) (Zv ((D : Int)) K))
set_option maxHeartbeats 400000 in
theorem beh_n (w : World) (A X : Int) (D K : Nat) (u v : Value) (h : Rv A (D : Int) K K u w) (h' : Zv X K v w) (hD : D ≠ 0) (hK : K ≤ 1048576) (hs : (A - (X * (D : Int))).sign < 0) :
  Calls Try.prog 10 #[u, v] w (Gives (ZN (fl (A + (A - (X * (D : Int)))) ((D : Int)))) w) := by
 obtain ⟨x0, x1, y0, y1, _, ha, hd⟩ := id h
 obtain ⟨l1, l2, l3⟩ := beh_len (zv_dlB ha) (zv_dlB h') (zv_dlB hd)
 have l0 : (digs (1 : Int).natAbs).length ≤ 1 := dl_small (by decide)
 have l4 : (digs (fl (A + (A - X * (D : Int))) (D : Int)).natAbs).length ≤ 2 * K + 3 := fl_len (by omega) l3
 refine calls_sta (sl := [(0, (PR (Zv A K) (Zv ((D : Int)) K))), (1, (Zv X K))]) Try.func10 rfl Try.ntmps10 (by simp) (args_cons rfl (rv_has h) (args_cons rfl (zv_has h') args_nil)) ?_
 intro a0 S0
 refine wq [.new (qwe3h2 A D K), .new (.box 24 (Zv X K)), .new (qwe3h1)] [.inl 0, .inl 1, .inl 2] [] S0 ?_ ?_
 ·apply jj3
  ·exact owe_box rfl wA rfl (oS 0 0) rfl (fun ρ w h => box_rat (shp_pr shp_zv shp_zv) ρ _ _ w h)
  ·exact owe_box rfl wA rfl (oS 1 1) rfl (fun ρ w h => box_int shp_zv ρ _ _ w h)
  ·exact owe_new rfl wA rfl rfl (fun ρ w => alloc_int ρ _ w)
 intro _ a1 _ (S1 : Sta w 36 [(2, (qwe3h2 A D K)), (3, (.box 24 (Zv X K))), (4, (qwe3h1))] [] _ _ _)
 refine wq [.val (Zv X K), .val (Part a1 2 2), .val (Zv ((D : Int)) K), .val ((ZN (X * (D : Int))) w.heap.size), .new (qwe3h1), .put (.inr 4) (.box 24 ((ZN (X * (D : Int))) w.heap.size))] [.inr 0, .inr 2, .inl 4] [] S1 ?_ ?_
 ·apply jj6
  ·exact lod 1 wA (loads_of strct_int shp_zv)
  ·exact owe_part rfl wA rfl (k := 0) rfl (by kernel_rfl) rfl (fun ρ w b h => part_rat1 ρ _ _ w b 0 h)
  ·exact owe_pload rfl wA rfl (oO 1 11) (k := 0) rfl (by kernel_rfl) rfl (fun ρ w b u h1 h2 h3 => pload_den ρ _ _ w b u h1 h2 h3)
  ·exact cc2 wA (qO 0 10 rfl) (qO 2 12 rfl) (fresh_zn _) (fun w u v h1 h2 => g_zmul (by omega) w u v ((fun _ _ h => h) _ _ h1) ((fun _ _ h => h) _ _ h2))
  ·exact owe_new rfl wA rfl rfl (fun ρ w => alloc_int ρ _ w)
  ·exact owe_put 4 rfl wA rfl (by kernel_rfl) rfl (oO 3 13) (stores_of strct_int shp_z0 shp_zn) rfl
 intro _ a2 _ (S2 : Sta w 36 [(2, (qwe3h2 A D K)), (4, (qwe3h1)), (5, (.box 24 ((ZN (X * (D : Int))) w.heap.size)))] [] _ _ _)
 refine wq [.val (Part a2 2 0), .val (Zv A K), .val ((ZN (X * (D : Int))) w.heap.size), .val ((ZN (A - (X * (D : Int)))) w.heap.size), .new (qwe3h1), .put (.inr 4) (.box 24 ((ZN (A - (X * (D : Int)))) w.heap.size))] [.inr 0, .inr 1, .inl 4] [] S2 ?_ ?_
 ·apply jj6
  ·exact owe_part rfl wA rfl (k := 0) rfl (by kernel_rfl) rfl (fun ρ w b h => part_rat0 ρ _ _ w b 0 h)
  ·exact owe_pload rfl wA rfl (oO 0 14) (k := 0) rfl (by kernel_rfl) rfl (fun ρ w b u h1 h2 h3 => pload_num ρ _ _ w b u h1 h2 h3)
  ·exact lod 2 wA (loads_of strct_int shp_zn)
  ·exact cc2 wA (qO 1 15 rfl) (qO 2 16 rfl) (fresh_zn _) (fun w u v h1 h2 => g_zsub (by omega) (by omega) w u v ((fun _ _ h => h) _ _ h1) ((zn_zv l1) _ _ h2))
  ·exact owe_new rfl wA rfl rfl (fun ρ w => alloc_int ρ _ w)
  ·exact owe_put 4 rfl wA rfl (by kernel_rfl) rfl (oO 3 17) (stores_of strct_int shp_z0 shp_zn) rfl
 intro _ a3 _ (S3 : Sta w 36 [(2, (qwe3h2 A D K)), (4, (qwe3h1)), (6, (.box 24 ((ZN (A - (X * (D : Int)))) w.heap.size)))] [] _ _ _)
 refine wq [.val (Part a3 2 0), .val (Zv A K), .val ((ZN (A - (X * (D : Int)))) w.heap.size), .val ((ZN (A + (A - (X * (D : Int))))) w.heap.size), .val (Part a3 2 2), .val (Zv ((D : Int)) K), .val ((THREE (ZN (fl (A + (A - (X * (D : Int)))) ((D : Int)))) (ZN (rm (A + (A - (X * (D : Int)))) ((D : Int)))) (IS (.int .i64 0))) w.heap.size), .val ((THREE (ZN (fl (A + (A - (X * (D : Int)))) ((D : Int)))) (ZN (rm (A + (A - (X * (D : Int)))) ((D : Int)))) (IS (.int .i64 0))) w.heap.size), .val ((ZN (fl (A + (A - (X * (D : Int)))) ((D : Int)))) w.heap.size), .val ((ZN (rm (A + (A - (X * (D : Int)))) ((D : Int)))) w.heap.size), .val (iV 0), .new (qwe3h1), .new (qwe3h1), .put (.inr 11) (qwe3h0 w A X D), .put (.inr 12) (.box 24 ((ZN (rm (A + (A - (X * (D : Int)))) ((D : Int)))) w.heap.size)), .val (iV 0)] [.inr 1, .inr 2, .inl 11, .inl 12] [] S3 ?_ ?_
 ·repeat' refine And.intro ?_ ?_
  ·trivial
  ·exact owe_part rfl wA rfl (k := 0) rfl (by kernel_rfl) rfl (fun ρ w b h => part_rat0 ρ _ _ w b 0 h)
  ·exact owe_pload rfl wA rfl (oO 0 19) (k := 0) rfl (by kernel_rfl) rfl (fun ρ w b u h1 h2 h3 => pload_num ρ _ _ w b u h1 h2 h3)
  ·exact lod 2 wA (loads_of strct_int shp_zn)
  ·exact cc2 wA (qO 1 20 rfl) (qO 2 21 rfl) (fresh_zn _) (fun w u v h1 h2 => g_zadd (by omega) (by omega) w u v ((fun _ _ h => h) _ _ h1) ((zn_zv l2) _ _ h2))
  ·exact owe_part rfl wA rfl (k := 0) rfl (by kernel_rfl) rfl (fun ρ w b h => part_rat1 ρ _ _ w b 0 h)
  ·exact owe_pload rfl wA rfl (oO 4 23) (k := 0) rfl (by kernel_rfl) rfl (fun ρ w b u h1 h2 h3 => pload_den ρ _ _ w b u h1 h2 h3)
  ·exact cc2 wA (qO 3 22 rfl) (qO 5 24 rfl) (fresh_three (fresh_zn _) (fresh_zn _) (fresh_is _)) (fun w u v h1 h2 => g_zfloor (by omega) (by omega) (by omega) w u v ((zn_zv l3) _ _ h1) ((fun _ _ h => h) _ _ h2))
  ·exact mO 6 25
  ·exact e30 wA (oO 7 18)
  ·exact e31 wA (oO 7 18)
  ·exact e32 wA (oO 7 18)
  ·exact owe_new rfl wA rfl rfl (fun ρ w => alloc_int ρ _ w)
  ·exact owe_new rfl wA rfl rfl (fun ρ w => alloc_int ρ _ w)
  ·exact owe_put 11 rfl wA rfl (by kernel_rfl) rfl (oO 8 26) (stores_of strct_int shp_z0 shp_zn) rfl
  ·exact owe_put 12 rfl wA rfl (by kernel_rfl) rfl (oO 9 27) (stores_of strct_int shp_z0 shp_zn) rfl
  ·exact mO 10 28
 intro _ a4 _ (S4 : Sta w 36 [(4, (qwe3h1)), (6, (.box 24 ((ZN (A - (X * (D : Int)))) w.heap.size))), (7, (qwe3h0 w A X D)), (8, (.box 24 ((ZN (rm (A + (A - (X * (D : Int)))) ((D : Int)))) w.heap.size)))] [] _ _ _)
 refine wp_seq ?_
 refine wq [.val ((ZN (A - (X * (D : Int)))) w.heap.size), .val (Is (.int .i64 (A - (X * (D : Int))).sign)), kT] [.inr 0, .inr 2] [.inl 2] S4 ?_ ?_
 ·apply jj3
  ·exact lod 1 wA (loads_of strct_int shp_zn)
  ·exact cc1 wA (qO 0 29 rfl) (fresh_is _) (fun w u h1 => g_zsgn (by omega) w u ((zn_zv l2) _ _ h1))
  ·exact b_lss_int_t wA (oO 1 30) (opnd_const _) (h := hs)
 intro _ a5 _ (S5 : Sta w 36 [(4, (qwe3h1)), (7, (qwe3h0 w A X D))] [(31, bT)] _ _ _)
 refine wp_cond_true (S5.bool 0 31 rfl) ?_
 refine wq [.val ((ZN (fl (A + (A - (X * (D : Int)))) ((D : Int)))) w.heap.size), .put (.inl 4) (qwe3h0 w A X D)] [.inr 0] [] S5 ?_ ?_
 ·apply jj2
  ·exact lod 1 wA (loads_of strct_int shp_zn)
  ·exact owe_set rfl wA rfl (k := 0) rfl (by kernel_rfl) (oO 0 32) (stores_of strct_int shp_z0 shp_zn) rfl
 intro _ a6 _ (S6 : Sta w 36 [(4, (qwe3h0 w A X D))] [] _ _ _)
 refine wp_ret (thenR ?_)
 exact end_one S6 rfl (res_cell S6 0 4 rfl strct_int shp_zn)

abbrev qvmf20  : Rk := .box 24 zI
abbrev qvmf21 (w : World) (A : Int) (X : Int) (D : Nat) : Pr := (ZN (fl (A + (A - (X * (D : Int)))) ((D : Int)))) w.heap.size
abbrev qvmf22 (A : Int) (D : Nat) (K : Nat) : Rk := .box 26 (PR (Zv A K) (Zv ((D : Int)) K))
set_option maxHeartbeats 400000 in
theorem beh_p (w : World) (A X : Int) (D K : Nat) (u v : Value) (h : Rv A (D : Int) K K u w) (h' : Zv X K v w) (hD : D ≠ 0) (hK : K ≤ 1048576) (hs : 0 ≤ (A - (X * (D : Int))).sign) :
  Calls Try.prog 10 #[u, v] w (Gives (ZN (fl (A + (A - (X * (D : Int)))) ((D : Int)) + 1)) w) := by
 obtain ⟨x0, x1, y0, y1, _, ha, hd⟩ := id h
 obtain ⟨l1, l2, l3⟩ := beh_len (zv_dlB ha) (zv_dlB h') (zv_dlB hd)
 have l0 : (digs (1 : Int).natAbs).length ≤ 1 := dl_small (by decide)
 have l4 : (digs (fl (A + (A - X * (D : Int))) (D : Int)).natAbs).length ≤ 2 * K + 3 := fl_len (by omega) l3
 refine calls_sta (sl := [(0, (PR (Zv A K) (Zv ((D : Int)) K))), (1, (Zv X K))]) Try.func10 rfl Try.ntmps10 (by simp) (args_cons rfl (rv_has h) (args_cons rfl (zv_has h') args_nil)) ?_
 intro a0 S0
 refine wq [.new (qvmf22 A D K), .new (.box 24 (Zv X K)), .new (qvmf20)] [.inl 0, .inl 1, .inl 2] [] S0 ?_ ?_
 ·apply jj3
  ·exact owe_box rfl wA rfl (oS 0 0) rfl (fun ρ w h => box_rat (shp_pr shp_zv shp_zv) ρ _ _ w h)
  ·exact owe_box rfl wA rfl (oS 1 1) rfl (fun ρ w h => box_int shp_zv ρ _ _ w h)
  ·exact owe_new rfl wA rfl rfl (fun ρ w => alloc_int ρ _ w)
 intro _ a1 _ (S1 : Sta w 36 [(2, (qvmf22 A D K)), (3, (.box 24 (Zv X K))), (4, (qvmf20))] [] _ _ _)
 refine wq [.val (Zv X K), .val (Part a1 2 2), .val (Zv ((D : Int)) K), .val ((ZN (X * (D : Int))) w.heap.size), .new (qvmf20), .put (.inr 4) (.box 24 ((ZN (X * (D : Int))) w.heap.size))] [.inr 0, .inr 2, .inl 4] [] S1 ?_ ?_
 ·apply jj6
  ·exact lod 1 wA (loads_of strct_int shp_zv)
  ·exact owe_part rfl wA rfl (k := 0) rfl (by kernel_rfl) rfl (fun ρ w b h => part_rat1 ρ _ _ w b 0 h)
  ·exact owe_pload rfl wA rfl (oO 1 11) (k := 0) rfl (by kernel_rfl) rfl (fun ρ w b u h1 h2 h3 => pload_den ρ _ _ w b u h1 h2 h3)
  ·exact cc2 wA (qO 0 10 rfl) (qO 2 12 rfl) (fresh_zn _) (fun w u v h1 h2 => g_zmul (by omega) w u v ((fun _ _ h => h) _ _ h1) ((fun _ _ h => h) _ _ h2))
  ·exact owe_new rfl wA rfl rfl (fun ρ w => alloc_int ρ _ w)
  ·exact owe_put 4 rfl wA rfl (by kernel_rfl) rfl (oO 3 13) (stores_of strct_int shp_z0 shp_zn) rfl
 intro _ a2 _ (S2 : Sta w 36 [(2, (qvmf22 A D K)), (4, (qvmf20)), (5, (.box 24 ((ZN (X * (D : Int))) w.heap.size)))] [] _ _ _)
 refine wq [.val (Part a2 2 0), .val (Zv A K), .val ((ZN (X * (D : Int))) w.heap.size), .val ((ZN (A - (X * (D : Int)))) w.heap.size), .new (qvmf20), .put (.inr 4) (.box 24 ((ZN (A - (X * (D : Int)))) w.heap.size))] [.inr 0, .inr 1, .inl 4] [] S2 ?_ ?_
 ·apply jj6
  ·exact owe_part rfl wA rfl (k := 0) rfl (by kernel_rfl) rfl (fun ρ w b h => part_rat0 ρ _ _ w b 0 h)
  ·exact owe_pload rfl wA rfl (oO 0 14) (k := 0) rfl (by kernel_rfl) rfl (fun ρ w b u h1 h2 h3 => pload_num ρ _ _ w b u h1 h2 h3)
  ·exact lod 2 wA (loads_of strct_int shp_zn)
  ·exact cc2 wA (qO 1 15 rfl) (qO 2 16 rfl) (fresh_zn _) (fun w u v h1 h2 => g_zsub (by omega) (by omega) w u v ((fun _ _ h => h) _ _ h1) ((zn_zv l1) _ _ h2))
  ·exact owe_new rfl wA rfl rfl (fun ρ w => alloc_int ρ _ w)
  ·exact owe_put 4 rfl wA rfl (by kernel_rfl) rfl (oO 3 17) (stores_of strct_int shp_z0 shp_zn) rfl
 intro _ a3 _ (S3 : Sta w 36 [(2, (qvmf22 A D K)), (4, (qvmf20)), (6, (.box 24 ((ZN (A - (X * (D : Int)))) w.heap.size)))] [] _ _ _)
 refine wq [.val (Part a3 2 0), .val (Zv A K), .val ((ZN (A - (X * (D : Int)))) w.heap.size), .val ((ZN (A + (A - (X * (D : Int))))) w.heap.size), .val (Part a3 2 2), .val (Zv ((D : Int)) K), .val ((THREE (ZN (fl (A + (A - (X * (D : Int)))) ((D : Int)))) (ZN (rm (A + (A - (X * (D : Int)))) ((D : Int)))) (IS (.int .i64 0))) w.heap.size), .val ((THREE (ZN (fl (A + (A - (X * (D : Int)))) ((D : Int)))) (ZN (rm (A + (A - (X * (D : Int)))) ((D : Int)))) (IS (.int .i64 0))) w.heap.size), .val (qvmf21 w A X D), .val ((ZN (rm (A + (A - (X * (D : Int)))) ((D : Int)))) w.heap.size), .val (iV 0), .new (qvmf20), .new (qvmf20), .put (.inr 11) (.box 24 (qvmf21 w A X D)), .put (.inr 12) (.box 24 ((ZN (rm (A + (A - (X * (D : Int)))) ((D : Int)))) w.heap.size)), .val (iV 0)] [.inr 1, .inr 2, .inl 11, .inl 12] [] S3 ?_ ?_
 ·repeat' refine And.intro ?_ ?_
  ·trivial
  ·exact owe_part rfl wA rfl (k := 0) rfl (by kernel_rfl) rfl (fun ρ w b h => part_rat0 ρ _ _ w b 0 h)
  ·exact owe_pload rfl wA rfl (oO 0 19) (k := 0) rfl (by kernel_rfl) rfl (fun ρ w b u h1 h2 h3 => pload_num ρ _ _ w b u h1 h2 h3)
  ·exact lod 2 wA (loads_of strct_int shp_zn)
  ·exact cc2 wA (qO 1 20 rfl) (qO 2 21 rfl) (fresh_zn _) (fun w u v h1 h2 => g_zadd (by omega) (by omega) w u v ((fun _ _ h => h) _ _ h1) ((zn_zv l2) _ _ h2))
  ·exact owe_part rfl wA rfl (k := 0) rfl (by kernel_rfl) rfl (fun ρ w b h => part_rat1 ρ _ _ w b 0 h)
  ·exact owe_pload rfl wA rfl (oO 4 23) (k := 0) rfl (by kernel_rfl) rfl (fun ρ w b u h1 h2 h3 => pload_den ρ _ _ w b u h1 h2 h3)
  ·exact cc2 wA (qO 3 22 rfl) (qO 5 24 rfl) (fresh_three (fresh_zn _) (fresh_zn _) (fresh_is _)) (fun w u v h1 h2 => g_zfloor (by omega) (by omega) (by omega) w u v ((zn_zv l3) _ _ h1) ((fun _ _ h => h) _ _ h2))
  ·exact mO 6 25
  ·exact e30 wA (oO 7 18)
  ·exact e31 wA (oO 7 18)
  ·exact e32 wA (oO 7 18)
  ·exact owe_new rfl wA rfl rfl (fun ρ w => alloc_int ρ _ w)
  ·exact owe_new rfl wA rfl rfl (fun ρ w => alloc_int ρ _ w)
  ·exact owe_put 11 rfl wA rfl (by kernel_rfl) rfl (oO 8 26) (stores_of strct_int shp_z0 shp_zn) rfl
  ·exact owe_put 12 rfl wA rfl (by kernel_rfl) rfl (oO 9 27) (stores_of strct_int shp_z0 shp_zn) rfl
  ·exact mO 10 28
 intro _ a4 _ (S4 : Sta w 36 [(4, (qvmf20)), (6, (.box 24 ((ZN (A - (X * (D : Int)))) w.heap.size))), (7, (.box 24 (qvmf21 w A X D))), (8, (.box 24 ((ZN (rm (A + (A - (X * (D : Int)))) ((D : Int)))) w.heap.size)))] [] _ _ _)
 refine wp_seq ?_
 refine wq [.val ((ZN (A - (X * (D : Int)))) w.heap.size), .val (Is (.int .i64 (A - (X * (D : Int))).sign)), kF] [.inr 0, .inr 2] [.inl 2] S4 ?_ ?_
 ·apply jj3
  ·exact lod 1 wA (loads_of strct_int shp_zn)
  ·exact cc1 wA (qO 0 29 rfl) (fresh_is _) (fun w u h1 => g_zsgn (by omega) w u ((zn_zv l2) _ _ h1))
  ·exact b_lss_int_f wA (oO 1 30) (opnd_const _) (h := hs)
 intro _ a5 _ (S5 : Sta w 36 [(4, (qvmf20)), (7, (.box 24 (qvmf21 w A X D)))] [(31, bF)] _ _ _)
 refine wp_cond_false (S5.bool 0 31 rfl) (wp_skip (thenN ?_))
 refine wq [.val (qvmf21 w A X D), .val ((ZN (1)) w.heap.size), .val ((ZN ((fl (A + (A - (X * (D : Int)))) ((D : Int))) + 1)) w.heap.size), .put (.inl 4) (.box 24 ((ZN ((fl (A + (A - (X * (D : Int)))) ((D : Int))) + 1)) w.heap.size))] [.inr 0] [] S5 ?_ ?_
 ·apply jj4
  ·exact lod 1 wA (loads_of strct_int shp_zn)
  ·exact cc1 wA (opnd_const _) (fresh_zn _) (g_zof 1 (by omega) (by omega))
  ·exact cc2 wA (qO 0 33 rfl) (qO 1 34 rfl) (fresh_zn _) (fun w u v h1 h2 => g_zadd (by omega) (by omega) w u v ((zn_zv l4) _ _ h1) ((zn_zv l0) _ _ h2))
  ·exact owe_set rfl wA rfl (k := 0) rfl (by kernel_rfl) (oO 2 35) (stores_of strct_int shp_z0 shp_zn) rfl
 intro _ a6 _ (S6 : Sta w 36 [(4, (.box 24 ((ZN ((fl (A + (A - (X * (D : Int)))) ((D : Int))) + 1)) w.heap.size)))] [] _ _ _)
 refine wp_ret ?_
 exact end_one S6 rfl (res_cell S6 0 4 rfl strct_int shp_zn)

theorem qw_in {A : Int} {D K : Nat} (hD : D ≠ 0) : ∀ v w, Rv A (D : Int) K K v w → QW A D K v w := fun v w h => ⟨A, D, hD, rfl, h⟩

abbrev qu6210 (w : World) (A : Int) (X : Int) (D : Nat) : Rk := .box 24 ((ZN (fl (A + (A - (X * (D : Int)))) ((D : Int)))) w.heap.size)
abbrev qu6211  : Rk := .box 24 zI
abbrev qu6212 (A : Int) (D : Nat) (K : Nat) : Rk := .box 26 (PR (Zv A K) (Zv ((D : Int)) K))
set_option maxHeartbeats 400000 in
theorem rbeh_n (w : World) (A X : Int) (D K : Nat) (u v : Value) (h : Rv A (D : Int) K K u w) (h' : Zv X K v w) (hD : D ≠ 0) (hK : K ≤ 1048576) (hs : (A - (X * (D : Int))).sign < 0) :
  Calls Try.prog 8 #[u, v] w (Gives (ZN (fl (A + (A - (X * (D : Int)))) ((D : Int)))) w) := by
 obtain ⟨x0, x1, y0, y1, _, ha, hd⟩ := id h
 obtain ⟨l1, l2, l3⟩ := beh_len (zv_dlB ha) (zv_dlB h') (zv_dlB hd)
 have l0 : (digs (1 : Int).natAbs).length ≤ 1 := dl_small (by decide)
 have l4 : (digs (fl (A + (A - X * (D : Int))) (D : Int)).natAbs).length ≤ 2 * K + 3 := fl_len (by omega) l3
 have lx := zv_dlB h'
 have la := zv_dlB ha
 have ld : (digs D).length ≤ K := by have := zv_dlB hd; rwa [Int.natAbs_natCast] at this
 have l5 : (digs (2 * A).natAbs).length ≤ K + 1 := by rw [Int.natAbs_mul]; exact Nat.le_trans (digs_mul_len (k := 1) (l := K) (dl_small (by decide)) la) (by omega)
 have hc : 0 < (X * (D : Int) - A * ((1 : Nat) : Int)).sign := by rw [beh_sign]; omega
 refine calls_sta (sl := [(0, (PR (Zv A K) (Zv ((D : Int)) K))), (1, (Zv X K))]) Try.func8 rfl Try.ntmps8 (by simp) (args_cons rfl (rv_has h) (args_cons rfl (zv_has h') args_nil)) ?_
 intro a0 S0
 refine wq [.new (qu6212 A D K), .new (.box 24 (Zv X K)), .new (qu6211)] [.inl 0, .inl 1, .inl 2] [] S0 ?_ ?_
 ·apply jj3
  ·exact owe_box rfl wA rfl (oS 0 0) rfl (fun ρ w h => box_rat (shp_pr shp_zv shp_zv) ρ _ _ w h)
  ·exact owe_box rfl wA rfl (oS 1 1) rfl (fun ρ w h => box_int shp_zv ρ _ _ w h)
  ·exact owe_new rfl wA rfl rfl (fun ρ w => alloc_int ρ _ w)
 intro _ a1 _ (S1 : Sta w 25 [(2, (qu6212 A D K)), (3, (.box 24 (Zv X K))), (4, (qu6211))] [] _ _ _)
 refine wq [.val ((ZN (2)) w.heap.size), .val ((QQ 2 1) w.heap.size), .new (.box 26 zR), .put (.inr 2) (.box 26 ((QQ 2 1) w.heap.size))] [.inr 0, .inr 1, .inr 2, .inl 2] [] S1 ?_ ?_
 ·apply jj4
  ·exact cc1 wA (opnd_const _) (fresh_zn _) (g_rof 2 (by omega) (by omega))
  ·exact cc1 wA (qO 0 7 rfl) (fresh_qq _ _) (fun w u h1 => Gives.cast (ψ := QQ (2) 1) (g_rofG (A := 2) (by omega) w u ((zn_zv (dl_small (by decide))) _ _ h1)) (qq_1 _))
  ·exact owe_new rfl wA rfl rfl (fun ρ w => alloc_rat ρ _ w)
  ·exact owe_put 2 rfl wA rfl (by kernel_rfl) rfl (oO 1 8) (stores_of strct_rat shp_r0 shp_qq) rfl
 intro _ a2 _ (S2 : Sta w 25 [(2, (qu6212 A D K)), (3, (.box 24 (Zv X K))), (4, (qu6211)), (5, (.box 26 ((QQ 2 1) w.heap.size)))] [] _ _ _)
 refine wq [.val ((QQ 2 1) w.heap.size), .val (PR (Zv A K) (Zv ((D : Int)) K)), .val ((QQ (2 * A) D) w.heap.size), .val (Zv X K), .val ((QQ X 1) w.heap.size), .val ((QQ (A + (A - (X * (D : Int)))) D) w.heap.size), .val ((ZN (fl (A + (A - (X * (D : Int)))) ((D : Int)))) w.heap.size), .new (qu6211), .put (.inr 7) (qu6210 w A X D)] [.inr 0, .inr 1, .inr 2, .inl 7] [] S2 ?_ ?_
 ·repeat' refine And.intro ?_ ?_
  ·trivial
  ·exact lod 3 wA (loads_of strct_rat shp_qq)
  ·exact lod 0 wA (loads_of strct_rat (shp_pr shp_zv shp_zv))
  ·exact cc2 wA (qO 0 9 rfl) (qO 1 10 rfl) (fresh_qq _ _) (fun w u v h1 h2 => Gives.cast (ψ := QQ (2 * A) D) (qw_rmul (k := 1) (k' := K) (by decide) hD (by omega) (by omega) w u v (qw_qq (by decide) (dl_small (by decide)) one_dl u w h1) (qw_in hD v w h2)) (qq_eq (Nat.mul_ne_zero (by decide) hD) hD (by simp only [Int.natCast_mul]; generalize (D : Int) = d at *; grind)))
  ·exact lod 1 wA (loads_of strct_int shp_zv)
  ·exact cc1 wA (qO 3 12 rfl) (fresh_qq _ _) (fun w u h1 => Gives.cast (ψ := QQ (X) 1) (g_rofG (A := X) (by omega) w u ((fun _ _ h => h) _ _ h1)) (qq_1 _))
  ·exact cc2 wA (qO 2 11 rfl) (qO 4 13 rfl) (fresh_qq _ _) (fun w u v h1 h2 => Gives.cast (ψ := QQ (A + (A - (X * (D : Int)))) D) (qw_rsub (k := K + 1) (k' := K + 1) hD (by decide) (by omega) (by omega) w u v (qw_qq hD l5 (Nat.le_trans ld (by omega)) u w h1) (qw_qq (by decide) (Nat.le_trans lx (by omega)) (Nat.le_trans one_dl (by omega)) v w h2)) (qq_eq (Nat.mul_ne_zero hD (by decide)) hD (by simp only [Int.natCast_mul]; generalize (D : Int) = d at *; grind)))
  ·exact cc1 wA (qO 5 14 rfl) (fresh_zn _) (fun w u h1 => Gives.cast (ψ := ZN (fl (A + (A - (X * (D : Int)))) ((D : Int)))) (g_rrfloor (k1 := 2 * K + 2) (k2 := 2 * K + 2) (dR_ne hD) (by omega) (by omega) w u (qq_rv l3 (Nat.le_trans ld (by omega)) u w h1)) (by rw [fl_low hD]))
  ·exact owe_new rfl wA rfl rfl (fun ρ w => alloc_int ρ _ w)
  ·exact owe_put 7 rfl wA rfl (by kernel_rfl) rfl (oO 6 15) (stores_of strct_int shp_z0 shp_zn) rfl
 intro _ a3 _ (S3 : Sta w 25 [(2, (qu6212 A D K)), (3, (.box 24 (Zv X K))), (4, (qu6211)), (6, (qu6210 w A X D))] [] _ _ _)
 refine wp_seq ?_
 refine wq [.val (Zv X K), .val ((QQ X 1) w.heap.size), .val (PR (Zv A K) (Zv ((D : Int)) K)), .val (Is (.int .i64 (X * (D : Int) - A * ((1 : Nat) : Int)).sign)), kT] [.inr 2, .inr 3] [.inl 4] S3 ?_ ?_
 ·apply jj5
  ·exact lod 1 wA (loads_of strct_int shp_zv)
  ·exact cc1 wA (qO 0 16 rfl) (fresh_qq _ _) (fun w u h1 => Gives.cast (ψ := QQ (X) 1) (g_rofG (A := X) (by omega) w u ((fun _ _ h => h) _ _ h1)) (qq_1 _))
  ·exact lod 0 wA (loads_of strct_rat (shp_pr shp_zv shp_zv))
  ·exact cc2 wA (qO 1 17 rfl) (qO 2 18 rfl) (fresh_is _) (fun w u v h1 h2 => g_rrcmpB (A := X) (D := 1) (k1 := K + 1) (k2 := K + 1) (k3 := K) (k4 := K) (by decide) hD (by omega) (by omega) (by omega) (by omega) w u v (by rw [← qq_1] at h1; exact rn_rv (Nat.le_trans lx (by omega)) (Nat.le_trans one_dl (by omega)) u w h1) h2)
  ·exact b_gtr_int_t wA (oO 3 19) (opnd_const _) (h := hc)
 intro _ a4 _ (S4 : Sta w 25 [(4, (qu6211)), (6, (qu6210 w A X D))] [(20, bT)] _ _ _)
 refine wp_cond_true (S4.bool 0 20 rfl) ?_
 refine wq [.val ((ZN (fl (A + (A - (X * (D : Int)))) ((D : Int)))) w.heap.size), .put (.inl 4) (qu6210 w A X D)] [.inr 0] [] S4 ?_ ?_
 ·apply jj2
  ·exact lod 1 wA (loads_of strct_int shp_zn)
  ·exact owe_set rfl wA rfl (k := 0) rfl (by kernel_rfl) (oO 0 21) (stores_of strct_int shp_z0 shp_zn) rfl
 intro _ a5 _ (S5 : Sta w 25 [(4, (qu6210 w A X D))] [] _ _ _)
 refine wp_ret (thenR ?_)
 exact end_one S5 rfl (res_cell S5 0 4 rfl strct_int shp_zn)

abbrev qxpoq0 (w : World) (A : Int) (X : Int) (D : Nat) : Pr := (ZN (fl (A + (A - (X * (D : Int)))) ((D : Int)))) w.heap.size
abbrev qxpoq1  : Rk := .box 24 zI
abbrev qxpoq2 (A : Int) (D : Nat) (K : Nat) : Rk := .box 26 (PR (Zv A K) (Zv ((D : Int)) K))
set_option maxHeartbeats 400000 in
theorem rbeh_p (w : World) (A X : Int) (D K : Nat) (u v : Value) (h : Rv A (D : Int) K K u w) (h' : Zv X K v w) (hD : D ≠ 0) (hK : K ≤ 1048576) (hs : 0 ≤ (A - (X * (D : Int))).sign) :
  Calls Try.prog 8 #[u, v] w (Gives (ZN (fl (A + (A - (X * (D : Int)))) ((D : Int)) + 1)) w) := by
 obtain ⟨x0, x1, y0, y1, _, ha, hd⟩ := id h
 obtain ⟨l1, l2, l3⟩ := beh_len (zv_dlB ha) (zv_dlB h') (zv_dlB hd)
 have l0 : (digs (1 : Int).natAbs).length ≤ 1 := dl_small (by decide)
 have l4 : (digs (fl (A + (A - X * (D : Int))) (D : Int)).natAbs).length ≤ 2 * K + 3 := fl_len (by omega) l3
 have lx := zv_dlB h'
 have la := zv_dlB ha
 have ld : (digs D).length ≤ K := by have := zv_dlB hd; rwa [Int.natAbs_natCast] at this
 have l5 : (digs (2 * A).natAbs).length ≤ K + 1 := by rw [Int.natAbs_mul]; exact Nat.le_trans (digs_mul_len (k := 1) (l := K) (dl_small (by decide)) la) (by omega)
 have hc : (X * (D : Int) - A * ((1 : Nat) : Int)).sign ≤ 0 := by rw [beh_sign]; omega
 refine calls_sta (sl := [(0, (PR (Zv A K) (Zv ((D : Int)) K))), (1, (Zv X K))]) Try.func8 rfl Try.ntmps8 (by simp) (args_cons rfl (rv_has h) (args_cons rfl (zv_has h') args_nil)) ?_
 intro a0 S0
 refine wq [.new (qxpoq2 A D K), .new (.box 24 (Zv X K)), .new (qxpoq1)] [.inl 0, .inl 1, .inl 2] [] S0 ?_ ?_
 ·apply jj3
  ·exact owe_box rfl wA rfl (oS 0 0) rfl (fun ρ w h => box_rat (shp_pr shp_zv shp_zv) ρ _ _ w h)
  ·exact owe_box rfl wA rfl (oS 1 1) rfl (fun ρ w h => box_int shp_zv ρ _ _ w h)
  ·exact owe_new rfl wA rfl rfl (fun ρ w => alloc_int ρ _ w)
 intro _ a1 _ (S1 : Sta w 25 [(2, (qxpoq2 A D K)), (3, (.box 24 (Zv X K))), (4, (qxpoq1))] [] _ _ _)
 refine wq [.val ((ZN (2)) w.heap.size), .val ((QQ 2 1) w.heap.size), .new (.box 26 zR), .put (.inr 2) (.box 26 ((QQ 2 1) w.heap.size))] [.inr 0, .inr 1, .inr 2, .inl 2] [] S1 ?_ ?_
 ·apply jj4
  ·exact cc1 wA (opnd_const _) (fresh_zn _) (g_rof 2 (by omega) (by omega))
  ·exact cc1 wA (qO 0 7 rfl) (fresh_qq _ _) (fun w u h1 => Gives.cast (ψ := QQ (2) 1) (g_rofG (A := 2) (by omega) w u ((zn_zv (dl_small (by decide))) _ _ h1)) (qq_1 _))
  ·exact owe_new rfl wA rfl rfl (fun ρ w => alloc_rat ρ _ w)
  ·exact owe_put 2 rfl wA rfl (by kernel_rfl) rfl (oO 1 8) (stores_of strct_rat shp_r0 shp_qq) rfl
 intro _ a2 _ (S2 : Sta w 25 [(2, (qxpoq2 A D K)), (3, (.box 24 (Zv X K))), (4, (qxpoq1)), (5, (.box 26 ((QQ 2 1) w.heap.size)))] [] _ _ _)
 refine wq [.val ((QQ 2 1) w.heap.size), .val (PR (Zv A K) (Zv ((D : Int)) K)), .val ((QQ (2 * A) D) w.heap.size), .val (Zv X K), .val ((QQ X 1) w.heap.size), .val ((QQ (A + (A - (X * (D : Int)))) D) w.heap.size), .val (qxpoq0 w A X D), .new (qxpoq1), .put (.inr 7) (.box 24 (qxpoq0 w A X D))] [.inr 0, .inr 1, .inr 2, .inl 7] [] S2 ?_ ?_
 ·repeat' refine And.intro ?_ ?_
  ·trivial
  ·exact lod 3 wA (loads_of strct_rat shp_qq)
  ·exact lod 0 wA (loads_of strct_rat (shp_pr shp_zv shp_zv))
  ·exact cc2 wA (qO 0 9 rfl) (qO 1 10 rfl) (fresh_qq _ _) (fun w u v h1 h2 => Gives.cast (ψ := QQ (2 * A) D) (qw_rmul (k := 1) (k' := K) (by decide) hD (by omega) (by omega) w u v (qw_qq (by decide) (dl_small (by decide)) one_dl u w h1) (qw_in hD v w h2)) (qq_eq (Nat.mul_ne_zero (by decide) hD) hD (by simp only [Int.natCast_mul]; generalize (D : Int) = d at *; grind)))
  ·exact lod 1 wA (loads_of strct_int shp_zv)
  ·exact cc1 wA (qO 3 12 rfl) (fresh_qq _ _) (fun w u h1 => Gives.cast (ψ := QQ (X) 1) (g_rofG (A := X) (by omega) w u ((fun _ _ h => h) _ _ h1)) (qq_1 _))
  ·exact cc2 wA (qO 2 11 rfl) (qO 4 13 rfl) (fresh_qq _ _) (fun w u v h1 h2 => Gives.cast (ψ := QQ (A + (A - (X * (D : Int)))) D) (qw_rsub (k := K + 1) (k' := K + 1) hD (by decide) (by omega) (by omega) w u v (qw_qq hD l5 (Nat.le_trans ld (by omega)) u w h1) (qw_qq (by decide) (Nat.le_trans lx (by omega)) (Nat.le_trans one_dl (by omega)) v w h2)) (qq_eq (Nat.mul_ne_zero hD (by decide)) hD (by simp only [Int.natCast_mul]; generalize (D : Int) = d at *; grind)))
  ·exact cc1 wA (qO 5 14 rfl) (fresh_zn _) (fun w u h1 => Gives.cast (ψ := ZN (fl (A + (A - (X * (D : Int)))) ((D : Int)))) (g_rrfloor (k1 := 2 * K + 2) (k2 := 2 * K + 2) (dR_ne hD) (by omega) (by omega) w u (qq_rv l3 (Nat.le_trans ld (by omega)) u w h1)) (by rw [fl_low hD]))
  ·exact owe_new rfl wA rfl rfl (fun ρ w => alloc_int ρ _ w)
  ·exact owe_put 7 rfl wA rfl (by kernel_rfl) rfl (oO 6 15) (stores_of strct_int shp_z0 shp_zn) rfl
 intro _ a3 _ (S3 : Sta w 25 [(2, (qxpoq2 A D K)), (3, (.box 24 (Zv X K))), (4, (qxpoq1)), (6, (.box 24 (qxpoq0 w A X D)))] [] _ _ _)
 refine wp_seq ?_
 refine wq [.val (Zv X K), .val ((QQ X 1) w.heap.size), .val (PR (Zv A K) (Zv ((D : Int)) K)), .val (Is (.int .i64 (X * (D : Int) - A * ((1 : Nat) : Int)).sign)), kF] [.inr 2, .inr 3] [.inl 4] S3 ?_ ?_
 ·apply jj5
  ·exact lod 1 wA (loads_of strct_int shp_zv)
  ·exact cc1 wA (qO 0 16 rfl) (fresh_qq _ _) (fun w u h1 => Gives.cast (ψ := QQ (X) 1) (g_rofG (A := X) (by omega) w u ((fun _ _ h => h) _ _ h1)) (qq_1 _))
  ·exact lod 0 wA (loads_of strct_rat (shp_pr shp_zv shp_zv))
  ·exact cc2 wA (qO 1 17 rfl) (qO 2 18 rfl) (fresh_is _) (fun w u v h1 h2 => g_rrcmpB (A := X) (D := 1) (k1 := K + 1) (k2 := K + 1) (k3 := K) (k4 := K) (by decide) hD (by omega) (by omega) (by omega) (by omega) w u v (by rw [← qq_1] at h1; exact rn_rv (Nat.le_trans lx (by omega)) (Nat.le_trans one_dl (by omega)) u w h1) h2)
  ·exact b_gtr_int_f wA (oO 3 19) (opnd_const _) (h := hc)
 intro _ a4 _ (S4 : Sta w 25 [(4, (qxpoq1)), (6, (.box 24 (qxpoq0 w A X D)))] [(20, bF)] _ _ _)
 refine wp_cond_false (S4.bool 0 20 rfl) (wp_skip (thenN ?_))
 refine wq [.val (qxpoq0 w A X D), .val ((ZN (1)) w.heap.size), .val ((ZN ((fl (A + (A - (X * (D : Int)))) ((D : Int))) + 1)) w.heap.size), .put (.inl 4) (.box 24 ((ZN ((fl (A + (A - (X * (D : Int)))) ((D : Int))) + 1)) w.heap.size))] [.inr 0] [] S4 ?_ ?_
 ·apply jj4
  ·exact lod 1 wA (loads_of strct_int shp_zn)
  ·exact cc1 wA (opnd_const _) (fresh_zn _) (g_rof 1 (by omega) (by omega))
  ·exact cc2 wA (qO 0 22 rfl) (qO 1 23 rfl) (fresh_zn _) (fun w u v h1 h2 => g_radd (by omega) (by omega) w u v ((zn_zv l4) _ _ h1) ((zn_zv l0) _ _ h2))
  ·exact owe_set rfl wA rfl (k := 0) rfl (by kernel_rfl) (oO 2 24) (stores_of strct_int shp_z0 shp_zn) rfl
 intro _ a5 _ (S5 : Sta w 25 [(4, (.box 24 ((ZN ((fl (A + (A - (X * (D : Int)))) ((D : Int))) + 1)) w.heap.size)))] [] _ _ _)
 refine wp_ret ?_
 exact end_one S5 rfl (res_cell S5 0 4 rfl strct_int shp_zn)

set_option maxHeartbeats 400000 in
theorem Beh_w (w : World) (A X : Int) (D K : Nat) (u v : Value) (h : Rv A (D : Int) K K u w) (h' : Zv X K v w) (hD : D ≠ 0) (hK : K ≤ 1048576) (z : Int) (hb : ∀ (w : World) (u v : Value), Rv A (D : Int) K K u w → Zv X K v w → Calls Try.prog 10 #[u, v] w (Gives (ZN z) w)) :
  Calls Try.prog 4 #[u, v] w (Gives (TWO (ZN (z)) (IS (.int .i64 0))) w) := by
 refine calls_sta (sl := [(0, (PR (Zv A K) (Zv ((D : Int)) K))), (1, (Zv X K))]) Try.func4 rfl Try.ntmps4 (by simp) (args_cons rfl (rv_has h) (args_cons rfl (zv_has h') args_nil)) ?_
 intro a0 S0
 refine wq [.new (.box 26 (PR (Zv A K) (Zv ((D : Int)) K))), .new (.box 24 (Zv X K)), .new (.box 24 zI), .val (iV 0)] [.inl 0, .inl 1, .inl 2] [] S0 ?_ ?_
 ·apply jj4
  ·exact owe_box rfl wA rfl (oS 0 0) rfl (fun ρ w h => box_rat (shp_pr shp_zv shp_zv) ρ _ _ w h)
  ·exact owe_box rfl wA rfl (oS 1 1) rfl (fun ρ w h => box_int shp_zv ρ _ _ w h)
  ·exact owe_new rfl wA rfl rfl (fun ρ w => alloc_int ρ _ w)
  ·exact mC
 intro _ a1 _ (S1 : Sta w 14 [(2, (.box 26 (PR (Zv A K) (Zv ((D : Int)) K)))), (3, (.box 24 (Zv X K))), (4, (.box 24 zI))] [] _ _ _)
 refine wp_seq ?_
 refine wq [.val (PR (Zv A K) (Zv ((D : Int)) K)), .val (Sng 26 4 (PR (Zv A K) (Zv ((D : Int)) K)) w.heap.size), kT, kF] [.inr 0, .inr 1, .inr 2] [.inl 3] S1 ?_ ?_
 ·apply jj4
  ·exact lod 0 wA (loads_of strct_rat (shp_pr shp_zv shp_zv))
  ·exact owe_b1 rfl wA rfl bld_rat4 (oO 0 6) (cel_shp (by decide) (shp_pr shp_zv shp_zv)) rfl
  ·exact ch1 wA ((qO 1 7 rfl).imp sng_ar1) (fresh_is _) (fun w u h => mayb_t w u 1 K [(A, (D : Int))] h (by omega) (by omega) rfl (one_lt (by omega)))
  ·exact b_not wA (oO 2 8)
 intro _ a2 _ (S2 : Sta w 14 [(2, (.box 26 (PR (Zv A K) (Zv ((D : Int)) K)))), (3, (.box 24 (Zv X K))), (4, (.box 24 zI))] [(9, bF)] _ _ _)
 refine wp_cond_false (S2.bool 0 9 rfl) (wp_skip (thenN ?_))
 refine wq [.val (PR (Zv A K) (Zv ((D : Int)) K)), .val (Zv X K), .val ((ZN (z)) w.heap.size), .put (.inl 4) (.box 24 ((ZN (z)) w.heap.size)), .val (iV 0)] [.inr 2] [.inl 4] S2 ?_ ?_
 ·apply jj5
  ·exact lod 0 wA (loads_of strct_rat (shp_pr shp_zv shp_zv))
  ·exact lod 1 wA (loads_of strct_int shp_zv)
  ·exact cc2 wA (qO 0 11 rfl) (qO 1 12 rfl) (fresh_zn _) (fun w u v h1 h2 => hb w u v h1 h2)
  ·exact owe_set rfl wA rfl (k := 2) rfl (by kernel_rfl) (oO 2 13) (stores_of strct_int shp_z0 shp_zn) rfl
  ·exact mC
 intro _ a3 _ (S3 : Sta w 14 [(4, (.box 24 ((ZN (z)) w.heap.size)))] [(5, iV 0)] _ _ _)
 refine wp_ret ?_
 exact end_two S3 rfl (res_cell S3 0 4 rfl strct_int shp_zn) (res_tmp S3 0 5 rfl)

set_option maxHeartbeats 400000 in
theorem Beh_b (w : World) (A X E : Int) (K : Nat) (u v : Value) (h : Rv A E K K u w) (h' : Zv X K v w) (hE : E ≤ 0) (hK : K ≤ 1048576) :
  Calls Try.prog 4 #[u, v] w (Gives (TWO (IS (.agg #[.bool false, .slice none 0 0])) (IS (.int .i64 30))) w) := by
 refine calls_sta (sl := [(0, (PR (Zv A K) (Zv E K))), (1, (Zv X K))]) Try.func4 rfl Try.ntmps4 (by simp) (args_cons rfl (rv_has h) (args_cons rfl (zv_has h') args_nil)) ?_
 intro a0 S0
 refine wq [.new (.box 26 (PR (Zv A K) (Zv E K))), .new (.box 24 (Zv X K)), .new (.box 24 zI), .val (iV 0)] [.inl 0, .inl 1, .inl 2] [] S0 ?_ ?_
 ·apply jj4
  ·exact owe_box rfl wA rfl (oS 0 0) rfl (fun ρ w h => box_rat (shp_pr shp_zv shp_zv) ρ _ _ w h)
  ·exact owe_box rfl wA rfl (oS 1 1) rfl (fun ρ w h => box_int shp_zv ρ _ _ w h)
  ·exact owe_new rfl wA rfl rfl (fun ρ w => alloc_int ρ _ w)
  ·exact mC
 intro _ a1 _ (S1 : Sta w 14 [(2, (.box 26 (PR (Zv A K) (Zv E K)))), (3, (.box 24 (Zv X K))), (4, (.box 24 zI))] [] _ _ _)
 refine wp_seq ?_
 refine wq [.val (PR (Zv A K) (Zv E K)), .val (Sng 26 4 (PR (Zv A K) (Zv E K)) w.heap.size), kF, kT] [.inr 0, .inr 1, .inr 2] [.inl 3] S1 ?_ ?_
 ·apply jj4
  ·exact lod 0 wA (loads_of strct_rat (shp_pr shp_zv shp_zv))
  ·exact owe_b1 rfl wA rfl bld_rat4 (oO 0 6) (cel_shp (by decide) (shp_pr shp_zv shp_zv)) rfl
  ·exact ch1 wA ((qO 1 7 rfl).imp sng_ar1) (fresh_is _) (fun w u h => mayb_f w u 1 K [(A, E)] h (by omega) (by omega) rfl 0 (by omega) (fun i hi => by omega) hE)
  ·exact b_not wA (oO 2 8)
 intro _ a2 _ (S2 : Sta w 14 [(2, (.box 26 (PR (Zv A K) (Zv E K)))), (3, (.box 24 (Zv X K))), (4, (.box 24 zI))] [(9, bT)] _ _ _)
 refine wp_cond_true (S2.bool 0 9 rfl) ?_
 refine wq [.val zI, .put (.inl 4) (.box 24 zI), .val (iV 30)] [.inr 2] [.inl 2] S2 ?_ ?_
 ·apply jj3
  ·exact owe_build_int rfl wA rfl rfl
  ·exact owe_set rfl wA rfl (k := 2) rfl (by kernel_rfl) (oO 0 10) (stores_of strct_int shp_z0 shp_z0) rfl
  ·exact mC
 intro _ a3 _ (S3 : Sta w 14 [(4, (.box 24 zI))] [(5, iV 30)] _ _ _)
 refine wp_ret (thenR ?_)
 exact end_two S3 rfl (res_cell S3 0 4 rfl strct_int shp_z0) (res_tmp S3 0 5 rfl)

abbrev q52530 (A : Int) (D : Nat) (K : Nat) : Rk := .box 26 (PR (Zv A K) (Zv (((D : Nat) : Int)) K))
set_option maxHeartbeats 2000000 in
theorem wb_g (w : World) (A : Int) (D K : Nat) (u : Value) (h : Rv A ((D : Nat) : Int) K K u w) (s : Bool) (p : Option Addr) (n c : Nat) (xs : List Nat) (h' : Sl w p n c xs) (hn : n ≤ K) (hc : c ≤ 35184372087808) (hK : K ≤ 1048576) (hv : decide (0 < ((D : Nat) : Int).sign) = true) (z : Int) (hB : ∀ (w : World) (u v : Value), Rv A ((D : Nat) : Int) K K u w → Zv (sg s (val xs)) K v w → Calls Try.prog 4 #[u, v] w (Gives ((TWO (ZN (z)) (IS (.int .i64 0)))) w)) (hR : ∀ (w : World) (u v : Value), Rv A ((D : Nat) : Int) K K u w → Zv (sg s (val xs)) K v w → Calls Try.prog 8 #[u, v] w (Gives ((ZN (z))) w)) :
  Calls Try.prog 3 #[u, .agg #[.bool s, .slice p n c]] w (Gives (IS (.bool true)) w) := by
 refine calls_sta (sl := [(0, (PR (Zv A K) (Zv (((D : Nat) : Int)) K))), (1, (Zx s p n c xs))]) Try.func3 rfl Try.ntmps3 (by simp) (args_cons rfl (rv_has h) (args_cons rfl (zx_has h') args_nil)) ?_
 intro a0 S0
 refine wq [.new (q52530 A D K), .new (.box 24 (Zx s p n c xs)), kF] [.inl 0, .inl 1] [] S0 ?_ ?_
 ·apply jj3
  ·exact owe_box rfl wA rfl (oS 0 0) rfl (fun ρ w h => box_rat (shp_pr shp_zv shp_zv) ρ _ _ w h)
  ·exact owe_box rfl wA rfl (oS 1 1) rfl (fun ρ w h => box_int shp_zx ρ _ _ w h)
  ·exact mC
 intro _ a1 _ (S1 : Sta w 33 [(2, (q52530 A D K)), (3, (.box 24 (Zx s p n c xs)))] [] _ _ _)
 refine wq [.val (PR (Zv A K) (Zv (((D : Nat) : Int)) K)), .val (Zx s p n c xs), .val ((ZO s n xs) w.heap.size), .val ((TWO (ZN (z)) (IS (.int .i64 0))) w.heap.size), .val ((TWO (ZN (z)) (IS (.int .i64 0))) w.heap.size), .val ((ZN (z)) w.heap.size), .val (iV 0), .new (.box 24 zI), .put (.inr 7) (.box 24 ((ZN (z)) w.heap.size)), .val (iV 0)] [.inr 0, .inr 1, .inl 7] [.inl 9] S1 ?_ ?_
 ·repeat' refine And.intro ?_ ?_
  ·trivial
  ·exact lod 0 wA (loads_of strct_rat (shp_pr shp_zv shp_zv))
  ·exact lod 1 wA (loads_of strct_int shp_zx)
  ·exact cc1 wA (qO 1 9 rfl) (fresh_zo _ _ _) (g_own hc)
  ·exact cc2 wA (qO 0 8 rfl) (qO 2 10 rfl) (fresh_two (fresh_zn _) (fresh_is _)) (fun w u v h1 h2 => hB w u v h1 (zv_mono hn _ _ ((zo_zv rfl (Nat.le_refl _)) _ _ h2)))
  ·exact mO 3 11
  ·exact e20 wA (oO 4 7)
  ·exact e21 wA (oO 4 7)
  ·exact owe_new rfl wA rfl rfl (fun ρ w => alloc_int ρ _ w)
  ·exact owe_put 7 rfl wA rfl (by kernel_rfl) rfl (oO 5 12) (stores_of strct_int shp_z0 shp_zn) rfl
  ·exact mO 6 13
 intro _ a2 _ (S2 : Sta w 33 [(2, (q52530 A D K)), (3, (.box 24 (Zx s p n c xs))), (5, (.box 24 ((ZN (z)) w.heap.size)))] [(6, iV 0)] _ _ _)
 refine wp_seq ?_
 refine wq [.val (PR (Zv A K) (Zv (((D : Nat) : Int)) K)), kT, kF] [.inr 0, .inr 1, .inr 2] [.inl 2, .inr 0] S2 ?_ ?_
 ·apply jj3
  ·exact lod 0 wA (loads_of strct_rat (shp_pr shp_zv shp_zv))
  ·exact cc1 wA (qO 0 14 rfl) (fresh_is _) (fun w u h1 => Gives.cast (ψ := IS (.bool true)) (g_rvalid (by omega) (by omega) w u ((pr_imp (fun _ _ h => h) (fun _ _ h => h)) _ _ h1)) (by rw [hv]))
  ·exact b_not wA (oO 1 15)
 intro _ a3 _ (S3 : Sta w 33 [(2, (q52530 A D K)), (3, (.box 24 (Zx s p n c xs))), (5, (.box 24 ((ZN (z)) w.heap.size)))] [(16, bF), (6, iV 0)] _ _ _)
 refine wp_cond_false (S3.bool 0 16 rfl) (wp_skip (thenN ?_))
 refine wq [.val (iV 0), kT, kT, .val ((ZN (z)) w.heap.size), .val (PR (Zv A K) (Zv (((D : Nat) : Int)) K)), .val (Zx s p n c xs), .val ((ZN (z)) w.heap.size), kT, kT, kT] [] [.inl 9] S3 ?_ ?_
 ·repeat' refine And.intro ?_ ?_
  ·trivial
  ·exact mS 1 6
  ·exact b_eql_errno_t wA (oO 0 24) (opnd_const _) (h := rfl)
  ·exact mO 1 25
  ·exact lod 2 (wI 2 26) (loads_of strct_int shp_zn)
  ·exact lod 0 (wI 2 26) (loads_of strct_rat (shp_pr shp_zv shp_zv))
  ·exact lod 1 (wI 2 26) (loads_of strct_int shp_zx)
  ·exact cc2 (wI 2 26) (qO 4 28 rfl) (qO 5 29 rfl) (fresh_zn _) (fun w u v h1 h2 => hR w u v h1 (zv_mono hn _ _ ((zx_zv' rfl (Nat.le_refl _)) _ _ h2)))
  ·exact cc2 (wI 2 26) (qO 3 27 rfl) (qO 6 30 rfl) (fresh_is _) g_eq
  ·exact pT wA (oO 2 26) (oO 7 31)
  ·exact mO 8 32
 intro _ a4 _ (S4 : Sta w 33 [] [(4, bT)] _ _ _)
 refine wp_ret ?_
 exact end_one S4 rfl (res_tmp S4 0 4 rfl)

set_option maxHeartbeats 2000000 in
theorem wb_b (w : World) (A D0 : Int) (K : Nat) (u : Value) (h : Rv A D0 K K u w) (s : Bool) (p : Option Addr) (n c : Nat) (xs : List Nat) (h' : Sl w p n c xs) (hn : n ≤ K) (hc : c ≤ 35184372087808) (hK : K ≤ 1048576) (hv : decide (0 < D0.sign) = false) (hB : ∀ (w : World) (u v : Value), Rv A D0 K K u w → Zv (sg s (val xs)) K v w → Calls Try.prog 4 #[u, v] w (Gives ((TWO (IS (.agg #[.bool false, .slice none 0 0])) (IS (.int .i64 30)))) w)) :
  Calls Try.prog 3 #[u, .agg #[.bool s, .slice p n c]] w (Gives (IS (.bool true)) w) := by
 refine calls_sta (sl := [(0, (PR (Zv A K) (Zv D0 K))), (1, (Zx s p n c xs))]) Try.func3 rfl Try.ntmps3 (by simp) (args_cons rfl (rv_has h) (args_cons rfl (zx_has h') args_nil)) ?_
 intro a0 S0
 refine wq [.new (.box 26 (PR (Zv A K) (Zv D0 K))), .new (.box 24 (Zx s p n c xs)), kF] [.inl 0, .inl 1] [] S0 ?_ ?_
 ·apply jj3
  ·exact owe_box rfl wA rfl (oS 0 0) rfl (fun ρ w h => box_rat (shp_pr shp_zv shp_zv) ρ _ _ w h)
  ·exact owe_box rfl wA rfl (oS 1 1) rfl (fun ρ w h => box_int shp_zx ρ _ _ w h)
  ·exact mC
 intro _ a1 _ (S1 : Sta w 33 [(2, (.box 26 (PR (Zv A K) (Zv D0 K)))), (3, (.box 24 (Zx s p n c xs)))] [] _ _ _)
 refine wq [.val (PR (Zv A K) (Zv D0 K)), .val (Zx s p n c xs), .val ((ZO s n xs) w.heap.size), .val ((TWO (IS (.agg #[.bool false, .slice none 0 0])) (IS (.int .i64 30))) w.heap.size), .val ((TWO (IS (.agg #[.bool false, .slice none 0 0])) (IS (.int .i64 30))) w.heap.size), .val zI, .val (iV 30), .new (.box 24 zI), .put (.inr 7) (.box 24 zI), .val (iV 30)] [.inr 0, .inr 1, .inl 7] [.inl 9] S1 ?_ ?_
 ·repeat' refine And.intro ?_ ?_
  ·trivial
  ·exact lod 0 wA (loads_of strct_rat (shp_pr shp_zv shp_zv))
  ·exact lod 1 wA (loads_of strct_int shp_zx)
  ·exact cc1 wA (qO 1 9 rfl) (fresh_zo _ _ _) (g_own hc)
  ·exact cc2 wA (qO 0 8 rfl) (qO 2 10 rfl) (fresh_two (fresh_is _) (fresh_is _)) (fun w u v h1 h2 => hB w u v h1 (zv_mono hn _ _ ((zo_zv rfl (Nat.le_refl _)) _ _ h2)))
  ·exact mO 3 11
  ·exact e20 wA (oO 4 7)
  ·exact e21 wA (oO 4 7)
  ·exact owe_new rfl wA rfl rfl (fun ρ w => alloc_int ρ _ w)
  ·exact owe_put 7 rfl wA rfl (by kernel_rfl) rfl (oO 5 12) (stores_of strct_int shp_z0 shp_z0) rfl
  ·exact mO 6 13
 intro _ a2 _ (S2 : Sta w 33 [(2, (.box 26 (PR (Zv A K) (Zv D0 K)))), (3, (.box 24 (Zx s p n c xs))), (5, (.box 24 zI))] [(6, iV 30)] _ _ _)
 refine wp_seq ?_
 refine wq [.val (PR (Zv A K) (Zv D0 K)), kF, kT] [.inr 0, .inr 1, .inr 2] [.inl 2, .inr 0] S2 ?_ ?_
 ·apply jj3
  ·exact lod 0 wA (loads_of strct_rat (shp_pr shp_zv shp_zv))
  ·exact cc1 wA (qO 0 14 rfl) (fresh_is _) (fun w u h1 => Gives.cast (ψ := IS (.bool false)) (g_rvalid (by omega) (by omega) w u ((pr_imp (fun _ _ h => h) (fun _ _ h => h)) _ _ h1)) (by rw [hv]))
  ·exact b_not wA (oO 1 15)
 intro _ a3 _ (S3 : Sta w 33 [(2, (.box 26 (PR (Zv A K) (Zv D0 K)))), (3, (.box 24 (Zx s p n c xs))), (5, (.box 24 zI))] [(16, bT), (6, iV 30)] _ _ _)
 refine wp_cond_true (S3.bool 0 16 rfl) ?_
 refine wq [.val (iV 30), kT, kT, .val zI, .val zI, kT, kT, kT] [] [.inl 7] S3 ?_ ?_
 ·repeat' refine And.intro ?_ ?_
  ·trivial
  ·exact mS 1 6
  ·exact b_eql_errno_t wA (oO 0 17) (opnd_const _) (h := rfl)
  ·exact mO 1 18
  ·exact lod 2 (wI 2 19) (loads_of strct_int shp_z0)
  ·exact owe_build_int rfl (wI 2 19) rfl rfl
  ·exact cc2 (wI 2 19) (qO 3 20 rfl) (qO 4 21 rfl) (fresh_is _) g_eq0
  ·exact pT wA (oO 2 19) (oO 5 22)
  ·exact mO 6 23
 intro _ a4 _ (S4 : Sta w 33 [] [(4, bT)] _ _ _)
 refine wp_ret (thenR ?_)
 exact end_one S4 rfl (res_tmp S4 0 4 rfl)


theorem walkbehinds_walk (w : World) (s1 : Bool) (p1 : Option Addr) (n1 c1 : Nat) (xs1 : List Nat) (t1 : Bool) (q1 : Option Addr) (m1 d1 : Nat) (ys1 : List Nat) (s : Bool) (p : Option Addr) (n c : Nat) (xs : List Nat)
  (h1 : Sl w p1 n1 c1 xs1) (g1 : Sl w q1 m1 d1 ys1) (h' : Sl w p n c xs) (b1 : c1 ≤ 1048576) (b2 : d1 ≤ 1048576) (b3 : c ≤ 1048576) :
  Calls Try.prog 3 #[.agg #[.bool s1, .slice p1 n1 c1, .bool t1, .slice q1 m1 d1], .agg #[.bool s, .slice p n c]] w fun e w' => e = .returned (.bool true) ∧ Below w.heap.size w w' := by
 have e1 := h1.cap; have e2 := g1.cap; have e3 := h'.cap
 have h : Rv (sg s1 (val xs1)) (sg t1 (val ys1)) 1048576 1048576 (.agg #[.bool s1, .slice p1 n1 c1, .bool t1, .slice q1 m1 d1]) w := pr_imp (zv_mono (by omega)) (zv_mono (by omega)) _ _ (rv_in h1 g1)
 have key : Calls Try.prog 3 #[.agg #[.bool s1, .slice p1 n1 c1, .bool t1, .slice q1 m1 d1], .agg #[.bool s, .slice p n c]] w (Gives (IS (.bool true)) w) := by
  generalize sg s1 (val xs1) = A at h
  generalize sg t1 (val ys1) = E at h
  cases hv : decide (0 < E.sign) with
  | false =>
   exact wb_b w A E 1048576 _ h s p n c xs h' (by omega) (by omega) (Nat.le_refl _) hv (fun w u v a b => Beh_b w A _ E 1048576 u v a b (by have := of_decide_eq_false hv; rcases Int.lt_or_le 0 E with q | q; exact absurd (by rw [Int.sign_eq_one_of_pos q]; decide) this; exact q) (Nat.le_refl _))
  | true =>
   obtain ⟨D, rfl, hD⟩ := pos_of_sign hv
   by_cases hs : (A - sg s (val xs) * (D : Int)).sign < 0
   ·exact wb_g w A D 1048576 _ h s p n c xs h' (by omega) (by omega) (Nat.le_refl _) hv _ (fun w u v a b => Beh_w w A _ D 1048576 u v a b hD (Nat.le_refl _) _ (fun w u v a b => beh_n w A _ D 1048576 u v a b hD (Nat.le_refl _) hs)) (fun w u v a b => rbeh_n w A _ D 1048576 u v a b hD (Nat.le_refl _) hs)
   ·exact wb_g w A D 1048576 _ h s p n c xs h' (by omega) (by omega) (Nat.le_refl _) hv _ (fun w u v a b => Beh_w w A _ D 1048576 u v a b hD (Nat.le_refl _) _ (fun w u v a b => beh_p w A _ D 1048576 u v a b hD (Nat.le_refl _) (by omega))) (fun w u v a b => rbeh_p w A _ D 1048576 u v a b hD (Nat.le_refl _) (by omega))
 refine key.mono ?_
 rintro e w' ⟨v, rfl, hb, hv⟩
 obtain rfl : v = _ := hv
 exact ⟨rfl, hb⟩

end Go.Proofs.Ytcbkmmkmffnfdaa
