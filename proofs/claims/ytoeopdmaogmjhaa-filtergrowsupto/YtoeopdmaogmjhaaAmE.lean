import Derived.Test.YtoeopdmaogmjhaaAmB
import Derived.Test.YtoeopdmaogmjhaaJaC
import Derived.Test.YtoeopdmaogmjhaaJaB
import Derived.Test.YtoeopdmaogmjhaaSetQ
import Derived.Test.YtoeopdmaogmjhaaSetR
import Derived.Test.YtoeopdmaogmjhaaGsB
/-
 zint.Root of great numbers; how far off a number may be; the least and the greatest.
-/
namespace Go.Proofs.Ytoeopdmaogmjhaa
open Go Go.RowKit Nt
set_option linter.unusedSimpArgs false
set_option linter.unusedVariables false
set_option maxRecDepth 20000

set_option maxHeartbeats 400000 in
theorem zrtG (w : World) (s : Bool) (p : Option Addr) (n c : Nat) (xs : List Nat) (h : Sl w p n c xs) (A : Int) (eA : sg s (val xs) = A) (hn : n ≤ 1073741824) (hA : 0 ≤ A.sign) :
  Calls Try.prog 64 #[.agg #[.bool s, .slice p n c]] w (Gives (TWO (ZN (sg false (rt (val xs)))) (IS (.int .i64 0))) w) := by
 have drt := rt_len h
 have dA : (digs A.natAbs).length ≤ n := by rw [← eA]; exact sg_dl h
 refine calls_sta (sl := [(0, (Zx s p n c xs))]) Try.func64 rfl Try.ntmps64 (by simp) (args_cons rfl (zx_has h) args_nil) ?_
 intro a0 S0
 refine wq [.new (.box 29 (Zx s p n c xs)), .new (.box 29 zI), .val (iV 0)] [.inl 0, .inl 1] [] S0 ?_ ?_
 ·apply jj3
  ·exact owe_box rfl wA rfl (oS 0 0) rfl (fun ρ w h => box_int shp_zx ρ _ _ w h)
  ·exact owe_new rfl wA rfl rfl (fun ρ w => alloc_int ρ _ w)
  ·exact mC
 intro _ a1 _ (S1 : Sta w 12 [(1, (.box 29 (Zx s p n c xs))), (2, (.box 29 zI))] [] _ _ _)
 refine wp_seq ?_
 refine wq [.val (Zx s p n c xs), .val (iV ((A).sign)), kF] [.inr 0, .inr 1] [.inl 2] S1 ?_ ?_
 ·apply jj3
  ·exact lod 0 wA (loads_of strct_int shp_zx)
  ·exact cc1 wA (qO 0 4 rfl) (fresh_is _) (fun w u h1 => g_zsgn (by omega) w u ((zx_zv' eA (Nat.le_refl _)) _ _ h1))
  ·exact b_lss_int_f wA (oO 1 5) (opnd_const _) (h := hA)
 intro _ a2 _ (S2 : Sta w 12 [(1, (.box 29 (Zx s p n c xs))), (2, (.box 29 zI))] [(6, bF)] _ _ _)
 refine wp_cond_false (S2.bool 0 6 rfl) (wp_skip (thenN ?_))
 refine wq [.val (Part a2 1 1), .val (Nx p n c xs), .val ((NN (rt (val xs))) w.heap.size), .val ((ZN (sg false (rt (val xs)))) w.heap.size), .put (.inl 2) (.box 29 ((ZN (sg false (rt (val xs)))) w.heap.size)), .val (iV 0)] [.inr 1] [.inl 5] S2 ?_ ?_
 ·apply jj6
  ·exact owe_part rfl wA rfl (k := 0) rfl (by kernel_rfl) rfl (fun ρ w b h => part_int1 ρ _ _ w b 0 h)
  ·exact owe_pload rfl wA rfl (oO 0 8) (k := 0) rfl (by kernel_rfl) rfl (fun ρ w b u h1 h2 h3 => pload_mag zx_mag ρ _ _ w b u h1 h2 h3)
  ·exact cc1 wA (qO 1 9 rfl) (fresh_nn _) (fun w u h1 => g_root (by omega) w u ((nx_nv (Nat.le_refl _)) _ _ h1))
  ·exact owe_callF2 rfl wA rfl (opnd_const _) (oO 2 10) rfl (fun args w => by go_simp) g_signed
  ·exact owe_set rfl wA rfl (k := 1) rfl (by kernel_rfl) (oO 3 11) (stores_of strct_int shp_z0 shp_zn) rfl
  ·exact mC
 intro _ a3 _ (S3 : Sta w 12 [(2, (.box 29 ((ZN (sg false (rt (val xs)))) w.heap.size)))] [(3, iV 0)] _ _ _)
 refine wp_ret ?_
 exact end_two S3 rfl (res_cell S3 0 2 rfl strct_int shp_zn) (res_tmp S3 0 3 rfl)

theorem g_zrootG {A : Int} {k : Nat} {ρ : Int} (hk : k ≤ 1073741824) (hA : 0 ≤ A) (eρ : ((rt A.natAbs : Nat) : Int) = ρ) : ∀ w u, Zv A k u w → Calls Try.prog 64 #[u] w (Gives (TWO (ZN ρ) (IS (.int .i64 0))) w) := by
 rintro w u ⟨s, p, n, c, xs, rfl, h, rfl, hn⟩
 rw [sg_abs] at eρ
 rw [← eρ]
 exact zrtG w s p n c xs h _ rfl (by omega) (sgn_nn hA)

abbrev qfft00  : Rk := .box 29 zI
abbrev qfft01 (pa : Value) (nD : Nat) (nL : Nat) (nT : Nat) (K : Nat) (D : List Int) (L : List (List Int)) (τ : List Int) (dn : Int) (k : Nat) (Ks : Nat) (KB : Nat) (KN : Nat) (KR : Nat) (sh : List Int) (b : Int) (N : Int) (R : Int) : Rk := .box 54 (SP (AP pa nD nL nT K D L τ dn) (Vv k sh Ks) (Zv b KB) (Zv N KN) (Zv R KR))
abbrev qfft02 (rn : Int) (rd : Int) (Kr : Nat) : Rk := .box 32 (PR (Zv rn Kr) (Zv rd Kr))
set_option maxHeartbeats 4000000 in
theorem rch_y (w : World) (pa : Value) (nD nL nT K : Nat) (D : List Int) (L : List (List Int)) (τ : List Int) (dn : Int) (hD : nD ≤ 1048577) (hL : nL ≤ 1048576) (hT : nT ≤ 1048576) (hK : K ≤ 16777216) (lD : D.length = nD) (lL : L.length = nL) (lT : τ.length = nT) (u : Value) (k Ks KB KN KR : Nat) (sh : List Int) (b N R : Int) (h : Hs w (SP (AP pa nD nL nT K D L τ dn) (Vv k sh Ks) (Zv b KB) (Zv N KN) (Zv R KR)) u) (hk : k < nL) (ls : sh.length = k) (hnT : nT = nL) (hnD : nD = nL + 1) (r : Value) (rn rd D0 D1 lf : Int) (Kr : Nat) (hr : Hs w (PR (Zv rn Kr) (Zv rd Kr)) r) (hKr : Kr ≤ 67108864) (hKN : KN ≤ 134217728) (hKR : KR ≤ 134217728) (eD0 : D.getD (nL - 1 - k) 0 = D0) (eD1 : D.getD (nL - 1 - k + 1) 0 = D1) (elf : rn * (dn * dn) * (D1 * R) - N * rd = lf) (sq ρ : Int) (hl : 0 ≤ lf) (hnz : rd * R ≠ 0) (eS : fl (lf * D0) (rd * R) = sq) (hs0 : 0 ≤ sq) (eρ : ((rt sq.natAbs : Nat) : Int) = ρ) :
  Calls Try.prog 45 #[u, r] w (Gives (TWO (ZN (ρ)) (IS (.bool true))) w) := by
 obtain ⟨_, _, _, _, _, ha, _, _, hNv, hRv⟩ := sp_at h.now
 have hamd := ap_dl ha
 have hpN := zv_dlR hNv
 have hpR := zv_dlR hRv
 obtain ⟨_, _, _, _, _, hrn, hrd⟩ := hr.now
 have hpn := zv_dlR hrn
 have hpd := zv_dlR hrd
 have hp0 : (digs D0.natAbs).length ≤ K := by rw [← eD0]; exact dl_getD hamd.1 _
 have hp1 : (digs D1.natAbs).length ≤ K := by rw [← eD1]; exact dl_getD hamd.1 _
 have q1 : (digs (dn * dn).natAbs).length ≤ 33554432 := by rw [Int.natAbs_mul]; exact Nat.le_trans (digs_mul_len hamd.2.2.2 hamd.2.2.2) (by omega)
 have q2 : (digs (rn * (dn * dn)).natAbs).length ≤ 100663296 := by rw [Int.natAbs_mul]; exact Nat.le_trans (digs_mul_len hpn q1) (by omega)
 have q3 : (digs (D1 * R).natAbs).length ≤ 150994944 := by rw [Int.natAbs_mul]; exact Nat.le_trans (digs_mul_len hp1 hpR) (by omega)
 have q4 : (digs (rn * (dn * dn) * (D1 * R)).natAbs).length ≤ 251658240 := by rw [Int.natAbs_mul]; exact Nat.le_trans (digs_mul_len q2 q3) (by omega)
 have q5 : (digs (N * rd).natAbs).length ≤ 251658240 := by rw [Int.natAbs_mul]; exact Nat.le_trans (digs_mul_len hpN hpd) (by omega)
 have q6 : (digs (lf).natAbs).length ≤ 251658241 := by rw [← elf]; exact digs_sub_len q4 q5
 have q7 : (digs (lf * D0).natAbs).length ≤ 268435457 := by rw [Int.natAbs_mul]; exact Nat.le_trans (digs_mul_len q6 hp0) (by omega)
 have q8 : (digs (rd * R).natAbs).length ≤ 201326592 := by rw [Int.natAbs_mul]; exact Nat.le_trans (digs_mul_len hpd hpR) (by omega)
 have hsg : 0 ≤ lf.sign := sgn_nn hl
 have q9 : (digs sq.natAbs).length ≤ 268435458 := by rw [← eS]; exact fl_len hnz q7
 refine calls_sta (sl := [(0, (SP (AP pa nD nL nT K D L τ dn) (Vv k sh Ks) (Zv b KB) (Zv N KN) (Zv R KR))), (1, (PR (Zv rn Kr) (Zv rd Kr)))]) Try.func45 rfl Try.ntmps45 (by simp) (args_cons rfl (h) (args_cons rfl (hr) args_nil)) ?_
 intro a0 S0
 refine wq [.new (qfft01 pa nD nL nT K D L τ dn k Ks KB KN KR sh b N R), .new (qfft02 rn rd Kr), .new (qfft00), kF] [.inl 0, .inl 1, .inl 2] [] S0 ?_ ?_
 ·apply jj4
  ·exact owe_box rfl wA rfl (oS 0 0) rfl (fun ρ w h => box_spot shp_st ρ _ _ w h)
  ·exact owe_box rfl wA rfl (oS 1 1) rfl (fun ρ w h => box_rat (shp_pr shp_zv shp_zv) ρ _ _ w h)
  ·exact owe_new rfl wA rfl rfl (fun ρ w => alloc_int ρ _ w)
  ·exact mC
 intro _ a1 _ (S1 : Sta w 86 [(2, (qfft01 pa nD nL nT K D L τ dn k Ks KB KN KR sh b N R)), (3, (qfft02 rn rd Kr)), (4, (qfft00))] [] _ _ _)
 refine wq [.val (Part a1 2 0), .val (AP pa nD nL nT K D L τ dn), .val (Part a1 2 0), .val (AP pa nD nL nT K D L τ dn), .val (AP pa nD nL nT K D L τ dn), .val (AtE 2 (SF [(Vv nD D K), (Mv nL L K)])), .val (AtE 1 (Vv nD D K)), .val (Vv nD D K), .val (SP (AP pa nD nL nT K D L τ dn) (Vv k sh Ks) (Zv b KB) (Zv N KN) (Zv R KR)), .val (iV ((nL - 1 - k : Nat) : Int)), .val (AtE 2 (Zv D0 K)), .val (Zv D0 K), .val (Part a1 2 0), .val (AP pa nD nL nT K D L τ dn), .val (AP pa nD nL nT K D L τ dn), .val (AtE 2 (SF [(Vv nD D K), (Mv nL L K)])), .val (AtE 1 (Vv nD D K)), .val (Vv nD D K), .val (SP (AP pa nD nL nT K D L τ dn) (Vv k sh Ks) (Zv b KB) (Zv N KN) (Zv R KR)), .val (iV ((nL - 1 - k : Nat) : Int)), .val (iV ((nL - 1 - k + 1 : Nat) : Int)), .val (AtE 2 (Zv D1 K)), .val (Zv D1 K), .new (qfft00), .new (qfft00), .val (AP pa nD nL nT K D L τ dn), .put (.inr 23) (.box 29 (Zv D0 K)), .put (.inr 24) (.box 29 (Zv D1 K))] [.inr 0, .inr 1, .inr 2, .inl 23, .inl 24] [.inl 25] S1 ?_ ?_
 ·repeat' refine And.intro ?_ ?_
  ·trivial
  ·exact owe_part rfl wA rfl (k := 0) rfl (by kernel_rfl) rfl (fun ρ w b h => part_spot0 ρ _ _ w b 0 h)
  ·exact owe_pload rfl wA rfl (oO 0 16) (k := 0) rfl (by kernel_rfl) rfl (fun ρ w b u h1 h2 h3 => pload_st ldr_aimp (k := 0) rfl (by decide) (by decide) ρ _ _ w b u h1 h2 h3)
  ·exact owe_part rfl wA rfl (k := 0) rfl (by kernel_rfl) rfl (fun ρ w b h => part_spot0 ρ _ _ w b 0 h)
  ·exact owe_pload rfl wA rfl (oO 2 18) (k := 0) rfl (by kernel_rfl) rfl (fun ρ w b u h1 h2 h3 => pload_st ldr_aimp (k := 0) rfl (by decide) (by decide) ρ _ _ w b u h1 h2 h3)
  ·exact owe_ptnil rfl wA rfl (oO 3 19) ap_pt rfl
  ·exact owe_apart (d := 0) rfl wA rfl ((oO 4 20).imp ap_at) (fun ρ w b k h => part_aimD ρ _ _ w b k h) am_p0 rfl
  ·exact owe_apart (d := 0) rfl wA rfl (oO 5 21) (fun ρ w b k h => part_gsoD ρ _ _ w b k h) (sf_pp (f := 0) rfl) rfl
  ·exact owe_aload rfl wA rfl ldr_row1 (by decide) cel_vv (oO 6 22) rfl
  ·exact lod 0 wA (loads_of strct_spot shp_st)
  ·exact ch1 wA (qO 8 24 rfl) (fresh_is _) (fun w u0 h0 => (srw_w w pa nD nL nT K D L τ dn hD hL hT hK lD lL lT u0 _ _ _ _ _ _ _ _ _ h0 (by omega) ls ((nL - 1 - k : Nat) : Int) (by omega)))
  ·exact owe_aindex rfl wA rfl idx_ints (oO 7 23) (oO 9 25) (by rw [← eD0]; exact zv_at (by omega)) rfl
  ·exact owe_aload rfl wA rfl ldr_int (by decide) (cel_shp (by decide) shp_zv) (oO 10 26) rfl
  ·exact owe_part rfl wA rfl (k := 0) rfl (by kernel_rfl) rfl (fun ρ w b h => part_spot0 ρ _ _ w b 0 h)
  ·exact owe_pload rfl wA rfl (oO 12 28) (k := 0) rfl (by kernel_rfl) rfl (fun ρ w b u h1 h2 h3 => pload_st ldr_aimp (k := 0) rfl (by decide) (by decide) ρ _ _ w b u h1 h2 h3)
  ·exact owe_ptnil rfl wA rfl (oO 13 29) ap_pt rfl
  ·exact owe_apart (d := 0) rfl wA rfl ((oO 14 30).imp ap_at) (fun ρ w b k h => part_aimD ρ _ _ w b k h) am_p0 rfl
  ·exact owe_apart (d := 0) rfl wA rfl (oO 15 31) (fun ρ w b k h => part_gsoD ρ _ _ w b k h) (sf_pp (f := 0) rfl) rfl
  ·exact owe_aload rfl wA rfl ldr_row1 (by decide) cel_vv (oO 16 32) rfl
  ·exact lod 0 wA (loads_of strct_spot shp_st)
  ·exact ch1 wA (qO 18 34 rfl) (fresh_is _) (fun w u0 h0 => (srw_w w pa nD nL nT K D L τ dn hD hL hT hK lD lL lT u0 _ _ _ _ _ _ _ _ _ h0 (by omega) ls ((nL - 1 - k : Nat) : Int) (by omega)))
  ·exact b_add_int wA (oO 19 35) (opnd_const _)
  ·exact owe_aindex rfl wA rfl idx_ints (oO 17 33) (oO 20 36) (by rw [← eD1]; exact zv_at (by omega)) rfl
  ·exact owe_aload rfl wA rfl ldr_int (by decide) (cel_shp (by decide) shp_zv) (oO 21 37) rfl
  ·exact owe_new rfl wA rfl rfl (fun ρ w => alloc_int ρ _ w)
  ·exact owe_new rfl wA rfl rfl (fun ρ w => alloc_int ρ _ w)
  ·exact mO 1 17
  ·exact owe_put 23 rfl wA rfl (by kernel_rfl) rfl (oO 11 27) (stores_of strct_int shp_z0 shp_zv) rfl
  ·exact owe_put 24 rfl wA rfl (by kernel_rfl) rfl (oO 22 38) (stores_of strct_int shp_z0 shp_zv) rfl
 intro _ a2 _ (S2 : Sta w 86 [(2, (qfft01 pa nD nL nT K D L τ dn k Ks KB KN KR sh b N R)), (3, (qfft02 rn rd Kr)), (4, (qfft00)), (7, (.box 29 (Zv D0 K))), (8, (.box 29 (Zv D1 K)))] [(6, (AP pa nD nL nT K D L τ dn))] _ _ _)
 refine wq [.val (Part a2 3 0), .val (Zv rn Kr), .val (AP pa nD nL nT K D L τ dn), .val (AP pa nD nL nT K D L τ dn), .val (AtE 2 (Zv dn K)), .val (Zv dn K), .val (AP pa nD nL nT K D L τ dn), .val (AP pa nD nL nT K D L τ dn), .val (AtE 2 (Zv dn K)), .val (Zv dn K), .val ((ZN (dn * dn)) w.heap.size), .val ((ZN (rn * (dn * dn))) w.heap.size), .val (Zv D1 K), .val (Part a2 2 6), .val (Zv R KR), .val ((ZN (D1 * R)) w.heap.size), .val ((ZN ((rn * (dn * dn)) * (D1 * R))) w.heap.size), .new (qfft00), .put (.inr 17) (.box 29 ((ZN ((rn * (dn * dn)) * (D1 * R))) w.heap.size))] [.inr 0, .inr 1, .inr 2, .inr 3, .inl 17] [] S2 ?_ ?_
 ·repeat' refine And.intro ?_ ?_
  ·trivial
  ·exact owe_part rfl wA rfl (k := 1) rfl (by kernel_rfl) rfl (fun ρ w b h => part_rat0 ρ _ _ w b 0 h)
  ·exact owe_pload rfl wA rfl (oO 0 39) (k := 1) rfl (by kernel_rfl) rfl (fun ρ w b u h1 h2 h3 => pload_num ρ _ _ w b u h1 h2 h3)
  ·exact mS 0 6
  ·exact owe_ptnil rfl wA rfl (oO 2 41) ap_pt rfl
  ·exact owe_apart (d := 3) rfl wA rfl ((oO 3 42).imp ap_at) (fun ρ w b k h => part_aim2 ρ _ _ w b k h) am_p2 rfl
  ·exact owe_aload rfl wA rfl ldr_int (by decide) (cel_shp (by decide) shp_zv) (oO 4 43) rfl
  ·exact mS 0 6
  ·exact owe_ptnil rfl wA rfl (oO 6 45) ap_pt rfl
  ·exact owe_apart (d := 3) rfl wA rfl ((oO 7 46).imp ap_at) (fun ρ w b k h => part_aim2 ρ _ _ w b k h) am_p2 rfl
  ·exact owe_aload rfl wA rfl ldr_int (by decide) (cel_shp (by decide) shp_zv) (oO 8 47) rfl
  ·exact cc2 wA (qO 5 44 rfl) (qO 9 48 rfl) (fresh_zn _) (fun w u v h1 h2 => g_zmul (by omega) w u v ((fun _ _ h => h) _ _ h1) ((fun _ _ h => h) _ _ h2))
  ·exact cc2 wA (qO 1 40 rfl) (qO 10 49 rfl) (fresh_zn _) (fun w u v h1 h2 => g_zmul (by omega) w u v ((fun _ _ h => h) _ _ h1) ((zn_zv q1) _ _ h2))
  ·exact lod 4 wA (loads_of strct_int shp_zv)
  ·exact owe_part rfl wA rfl (k := 0) rfl (by kernel_rfl) rfl (fun ρ w b h => part_spot4 ρ _ _ w b 0 h)
  ·exact owe_pload rfl wA rfl (oO 13 52) (k := 0) rfl (by kernel_rfl) rfl (fun ρ w b u h1 h2 h3 => pload_st ldr_int (k := 4) rfl (by decide) (by decide) ρ _ _ w b u h1 h2 h3)
  ·exact cc2 wA (qO 12 51 rfl) (qO 14 53 rfl) (fresh_zn _) (fun w u v h1 h2 => g_zmul (by omega) w u v ((fun _ _ h => h) _ _ h1) ((fun _ _ h => h) _ _ h2))
  ·exact cc2 wA (qO 11 50 rfl) (qO 15 54 rfl) (fresh_zn _) (fun w u v h1 h2 => g_zmul (by omega) w u v ((zn_zv q2) _ _ h1) ((zn_zv q3) _ _ h2))
  ·exact owe_new rfl wA rfl rfl (fun ρ w => alloc_int ρ _ w)
  ·exact owe_put 17 rfl wA rfl (by kernel_rfl) rfl (oO 16 55) (stores_of strct_int shp_z0 shp_zn) rfl
 intro _ a3 _ (S3 : Sta w 86 [(2, (qfft01 pa nD nL nT K D L τ dn k Ks KB KN KR sh b N R)), (3, (qfft02 rn rd Kr)), (4, (qfft00)), (7, (.box 29 (Zv D0 K))), (9, (.box 29 ((ZN ((rn * (dn * dn)) * (D1 * R))) w.heap.size)))] [] _ _ _)
 refine wq [.val ((ZN ((rn * (dn * dn)) * (D1 * R))) w.heap.size), .val (Part a3 2 4), .val (Zv N KN), .val (Part a3 3 2), .val (Zv rd Kr), .val ((ZN (N * rd)) w.heap.size), .val ((ZN (lf)) w.heap.size), .new (qfft00), .put (.inr 7) (.box 29 ((ZN (lf)) w.heap.size))] [.inr 0, .inr 1, .inr 2, .inr 3, .inl 7] [] S3 ?_ ?_
 ·repeat' refine And.intro ?_ ?_
  ·trivial
  ·exact lod 4 wA (loads_of strct_int shp_zn)
  ·exact owe_part rfl wA rfl (k := 0) rfl (by kernel_rfl) rfl (fun ρ w b h => part_spot3 ρ _ _ w b 0 h)
  ·exact owe_pload rfl wA rfl (oO 1 57) (k := 0) rfl (by kernel_rfl) rfl (fun ρ w b u h1 h2 h3 => pload_st ldr_int (k := 3) rfl (by decide) (by decide) ρ _ _ w b u h1 h2 h3)
  ·exact owe_part rfl wA rfl (k := 1) rfl (by kernel_rfl) rfl (fun ρ w b h => part_rat1 ρ _ _ w b 0 h)
  ·exact owe_pload rfl wA rfl (oO 3 59) (k := 1) rfl (by kernel_rfl) rfl (fun ρ w b u h1 h2 h3 => pload_den ρ _ _ w b u h1 h2 h3)
  ·exact cc2 wA (qO 2 58 rfl) (qO 4 60 rfl) (fresh_zn _) (fun w u v h1 h2 => g_zmul (by omega) w u v ((fun _ _ h => h) _ _ h1) ((fun _ _ h => h) _ _ h2))
  ·exact cc2 wA (qO 0 56 rfl) (qO 5 61 rfl) (fresh_zn _) (fun w u0 u1 h0 h1 => Gives.cast (ψ := (ZN (lf))) ((fun w u v h1 h2 => g_zsub (by omega) (by omega) w u v ((zn_zv q4) _ _ h1) ((zn_zv q5) _ _ h2)) w u0 u1 h0 h1) (by rw [elf]))
  ·exact owe_new rfl wA rfl rfl (fun ρ w => alloc_int ρ _ w)
  ·exact owe_put 7 rfl wA rfl (by kernel_rfl) rfl (oO 6 62) (stores_of strct_int shp_z0 shp_zn) rfl
 intro _ a4 _ (S4 : Sta w 86 [(2, (qfft01 pa nD nL nT K D L τ dn k Ks KB KN KR sh b N R)), (3, (qfft02 rn rd Kr)), (4, (qfft00)), (7, (.box 29 (Zv D0 K))), (10, (.box 29 ((ZN (lf)) w.heap.size)))] [] _ _ _)
 refine wp_seq ?_
 refine wq [.val ((ZN (lf)) w.heap.size), .val (iV ((lf).sign)), kF] [.inr 0, .inr 1, .inr 2, .inr 3, .inr 4] [.inl 2] S4 ?_ ?_
 ·apply jj3
  ·exact lod 4 wA (loads_of strct_int shp_zn)
  ·exact cc1 wA (qO 0 63 rfl) (fresh_is _) (fun w u h1 => h_zsign (by omega) w u ((zn_zv q6) _ _ h1))
  ·exact b_lss_int_f wA (oO 1 64) (opnd_const _) (h := hsg)
 intro _ a5 _ (S5 : Sta w 86 [(2, (qfft01 pa nD nL nT K D L τ dn k Ks KB KN KR sh b N R)), (3, (qfft02 rn rd Kr)), (4, (qfft00)), (7, (.box 29 (Zv D0 K))), (10, (.box 29 ((ZN (lf)) w.heap.size)))] [(65, bF)] _ _ _)
 refine wp_cond_false (S5.bool 0 65 rfl) (wp_skip (thenN ?_))
 refine wq [.val ((ZN (lf)) w.heap.size), .val (Zv D0 K), .val ((ZN (lf * D0)) w.heap.size), .val (Part a5 3 2), .val (Zv rd Kr), .val (Part a5 2 6), .val (Zv R KR), .val ((ZN (rd * R)) w.heap.size), .val ((THREE (ZN (sq)) (ZN (rm (lf * D0) (rd * R))) (IS (.int .i64 0))) w.heap.size), .val ((THREE (ZN (sq)) (ZN (rm (lf * D0) (rd * R))) (IS (.int .i64 0))) w.heap.size), .val ((ZN (sq)) w.heap.size), .val ((ZN (rm (lf * D0) (rd * R))) w.heap.size), .val (iV 0), .new (qfft00), .new (qfft00), .put (.inr 13) (.box 29 ((ZN (sq)) w.heap.size)), .put (.inr 14) (.box 29 ((ZN (rm (lf * D0) (rd * R))) w.heap.size)), .val (iV 0)] [.inr 0, .inr 2, .inl 13, .inl 14] [] S5 ?_ ?_
 ·repeat' refine And.intro ?_ ?_
  ·trivial
  ·exact lod 4 wA (loads_of strct_int shp_zn)
  ·exact lod 3 wA (loads_of strct_int shp_zv)
  ·exact cc2 wA (qO 0 68 rfl) (qO 1 69 rfl) (fresh_zn _) (fun w u v h1 h2 => g_zmul (by omega) w u v ((zn_zv q6) _ _ h1) ((fun _ _ h => h) _ _ h2))
  ·exact owe_part rfl wA rfl (k := 1) rfl (by kernel_rfl) rfl (fun ρ w b h => part_rat1 ρ _ _ w b 0 h)
  ·exact owe_pload rfl wA rfl (oO 3 71) (k := 1) rfl (by kernel_rfl) rfl (fun ρ w b u h1 h2 h3 => pload_den ρ _ _ w b u h1 h2 h3)
  ·exact owe_part rfl wA rfl (k := 0) rfl (by kernel_rfl) rfl (fun ρ w b h => part_spot4 ρ _ _ w b 0 h)
  ·exact owe_pload rfl wA rfl (oO 5 73) (k := 0) rfl (by kernel_rfl) rfl (fun ρ w b u h1 h2 h3 => pload_st ldr_int (k := 4) rfl (by decide) (by decide) ρ _ _ w b u h1 h2 h3)
  ·exact cc2 wA (qO 4 72 rfl) (qO 6 74 rfl) (fresh_zn _) (fun w u v h1 h2 => g_zmul (by omega) w u v ((fun _ _ h => h) _ _ h1) ((fun _ _ h => h) _ _ h2))
  ·exact cc2 wA (qO 2 70 rfl) (qO 7 75 rfl) (fresh_three (fresh_zn _) (fresh_zn _) (fresh_is _)) (fun w u v h1 h2 => Gives.cast (ψ := (THREE (ZN (sq)) (ZN (rm (lf * D0) (rd * R))) (IS (.int .i64 0)))) (g_zfloor hnz (by omega) (by omega) w u v ((zn_zv q7) _ _ h1) ((zn_zv q8) _ _ h2)) (by rw [eS]))
  ·exact mO 8 76
  ·exact e30 wA (oO 9 67)
  ·exact e31 wA (oO 9 67)
  ·exact e32 wA (oO 9 67)
  ·exact owe_new rfl wA rfl rfl (fun ρ w => alloc_int ρ _ w)
  ·exact owe_new rfl wA rfl rfl (fun ρ w => alloc_int ρ _ w)
  ·exact owe_put 13 rfl wA rfl (by kernel_rfl) rfl (oO 10 77) (stores_of strct_int shp_z0 shp_zn) rfl
  ·exact owe_put 14 rfl wA rfl (by kernel_rfl) rfl (oO 11 78) (stores_of strct_int shp_z0 shp_zn) rfl
  ·exact mO 12 79
 intro _ a6 _ (S6 : Sta w 86 [(2, (qfft01 pa nD nL nT K D L τ dn k Ks KB KN KR sh b N R)), (4, (qfft00)), (11, (.box 29 ((ZN (sq)) w.heap.size))), (12, (.box 29 ((ZN (rm (lf * D0) (rd * R))) w.heap.size)))] [] _ _ _)
 refine wq [.val ((ZN (sq)) w.heap.size), .val ((TWO (ZN (ρ)) (IS (.int .i64 0))) w.heap.size), .val ((TWO (ZN (ρ)) (IS (.int .i64 0))) w.heap.size), .val ((ZN (ρ)) w.heap.size), .val (iV 0), .new (qfft00), .put (.inr 5) (.box 29 ((ZN (ρ)) w.heap.size)), .val (iV 0)] [.inr 0, .inr 1, .inl 5] [] S6 ?_ ?_
 ·repeat' refine And.intro ?_ ?_
  ·trivial
  ·exact lod 2 wA (loads_of strct_int shp_zn)
  ·exact cc1 wA (qO 0 81 rfl) (fresh_two (fresh_zn _) (fresh_is _)) (fun w u h1 => g_zrootG (by omega) hs0 eρ w u ((zn_zv q9) _ _ h1))
  ·exact mO 1 82
  ·exact e20 wA (oO 2 80)
  ·exact e21 wA (oO 2 80)
  ·exact owe_new rfl wA rfl rfl (fun ρ w => alloc_int ρ _ w)
  ·exact owe_put 5 rfl wA rfl (by kernel_rfl) rfl (oO 3 83) (stores_of strct_int shp_z0 shp_zn) rfl
  ·exact mO 4 84
 intro _ a7 _ (S7 : Sta w 86 [(2, (qfft01 pa nD nL nT K D L τ dn k Ks KB KN KR sh b N R)), (4, (qfft00)), (14, (.box 29 ((ZN (ρ)) w.heap.size)))] [] _ _ _)
 refine wq [.val ((ZN (ρ)) w.heap.size), .put (.inl 4) (.box 29 ((ZN (ρ)) w.heap.size)), kT] [.inr 0, .inr 1] [.inl 2] S7 ?_ ?_
 ·apply jj3
  ·exact lod 2 wA (loads_of strct_int shp_zn)
  ·exact owe_set rfl wA rfl (k := 1) rfl (by kernel_rfl) (oO 0 85) (stores_of strct_int shp_z0 shp_zn) rfl
  ·exact mC
 intro _ a8 _ (S8 : Sta w 86 [(2, (qfft01 pa nD nL nT K D L τ dn k Ks KB KN KR sh b N R)), (4, (.box 29 ((ZN (ρ)) w.heap.size)))] [(5, bT)] _ _ _)
 refine wp_ret ?_
 exact end_two S8 rfl (res_cell S8 1 4 rfl strct_int shp_zn) (res_tmp S8 0 5 rfl)

abbrev qcscy0  : Rk := .box 29 zI
abbrev qcscy1 (w : World) (hi : Int) : Rk := .box 29 ((ZN (hi)) w.heap.size)
abbrev qcscy2 (pa : Value) (nD : Nat) (nL : Nat) (nT : Nat) (K : Nat) (D : List Int) (L : List (List Int)) (τ : List Int) (dn : Int) (k : Nat) (Ks : Nat) (KB : Nat) (KN : Nat) (KR : Nat) (sh : List Int) (b : Int) (N : Int) (R : Int) : Rk := .box 54 (SP (AP pa nD nL nT K D L τ dn) (Vv k sh Ks) (Zv b KB) (Zv N KN) (Zv R KR))
abbrev qcscy3 (w : World) (tn : Int) : Rk := .box 29 ((ZN (-tn)) w.heap.size)
abbrev qcscy4 (w : World) (ρ : Int) : Rk := .box 29 ((ZN (ρ)) w.heap.size)
set_option maxHeartbeats 4000000 in
theorem wth_y (w : World) (pa : Value) (nD nL nT K : Nat) (D : List Int) (L : List (List Int)) (τ : List Int) (dn : Int) (hD : nD ≤ 1048577) (hL : nL ≤ 1048576) (hT : nT ≤ 1048576) (hK : K ≤ 16777216) (lD : D.length = nD) (lL : L.length = nL) (lT : τ.length = nT) (u : Value) (k Ks KB KN KR : Nat) (sh : List Int) (b N R : Int) (h : Hs w (SP (AP pa nD nL nT K D L τ dn) (Vv k sh Ks) (Zv b KB) (Zv N KN) (Zv R KR)) u) (hk : k < nL) (ls : sh.length = k) (hnT : nT = nL) (hnD : nD = nL + 1) (r : Value) (rn rd T0 D1 cn cd : Int) (Kr : Nat) (hr : Hs w (PR (Zv rn Kr) (Zv rd Kr)) r) (hKB : KB ≤ 134217728) (eT : τ.getD (nL - 1 - k) 0 = T0) (eD : D.getD (nL - 1 - k + 1) 0 = D1) (ecn : T0 * D1 - b = cn) (ecd : dn * D1 = cd) (ρ hi tn : Int) (hρ : (digs ρ.natAbs).length ≤ 268435458) (hcd : cd ≠ 0) (eH : fl (cn + ρ) cd = hi) (eL : fl (ρ - cn) cd = tn) (hre : ∀ (w : World) (u r : Value), Hs w (SP (AP pa nD nL nT K D L τ dn) (Vv k sh Ks) (Zv b KB) (Zv N KN) (Zv R KR)) u → Hs w (PR (Zv rn Kr) (Zv rd Kr)) r → Calls Try.prog 45 #[u, r] w (Gives (TWO (ZN (ρ)) (IS (.bool true))) w)) (hx : -tn ≤ hi) :
  Calls Try.prog 26 #[u, r] w (Gives (THREE (ZN (-tn)) (ZN (hi)) (IS (.bool true))) w) := by
 obtain ⟨_, _, _, _, _, ha, _, hbv, _, _⟩ := sp_at h.now
 have hamd := ap_dl ha
 have hpb := zv_dlR hbv
 have hp1 : (digs D1.natAbs).length ≤ K := by rw [← eD]; exact dl_getD hamd.1 _
 have hpT : (digs T0.natAbs).length ≤ K := by rw [← eT]; exact dl_getD hamd.2.2.1 _
 have q1 : (digs (T0 * D1).natAbs).length ≤ 134217728 := by rw [Int.natAbs_mul]; exact Nat.le_trans (digs_mul_len hpT hp1) (by omega)
 have q2 : (digs (cn).natAbs).length ≤ 134217729 := by rw [← ecn]; exact digs_sub_len q1 (Nat.le_trans hpb hKB)
 have q3 : (digs (cd).natAbs).length ≤ 33554432 := by rw [← ecd]; rw [Int.natAbs_mul]; exact Nat.le_trans (digs_mul_len hamd.2.2.2 hp1) (by omega)
 have q4 : (digs (cn + ρ).natAbs).length ≤ 268435459 := dl_add (Nat.le_trans q2 (by omega)) hρ
 have q5 : (digs (ρ - cn).natAbs).length ≤ 268435459 := digs_sub_len hρ (Nat.le_trans q2 (by omega))
 have q6 : (digs (hi).natAbs).length ≤ 268435460 := by rw [← eH]; exact fl_len hcd q4
 have q7 : (digs (tn).natAbs).length ≤ 268435460 := by rw [← eL]; exact fl_len hcd q5
 have q8 : (digs (-tn).natAbs).length ≤ 268435460 := by rw [Int.natAbs_neg]; exact q7
 have hsg : (-tn - hi).sign ≤ 0 := sgn_npos (by omega)
 refine calls_sta (sl := [(0, (SP (AP pa nD nL nT K D L τ dn) (Vv k sh Ks) (Zv b KB) (Zv N KN) (Zv R KR))), (1, (PR (Zv rn Kr) (Zv rd Kr)))]) Try.func26 rfl Try.ntmps26 (by simp) (args_cons rfl (h) (args_cons rfl (hr) args_nil)) ?_
 intro a0 S0
 refine wq [.new (qcscy2 pa nD nL nT K D L τ dn k Ks KB KN KR sh b N R), .new (.box 32 (PR (Zv rn Kr) (Zv rd Kr))), .new (qcscy0), .new (qcscy0), kF] [.inl 0, .inl 1, .inl 2, .inl 3] [] S0 ?_ ?_
 ·apply jj5
  ·exact owe_box rfl wA rfl (oS 0 0) rfl (fun ρ w h => box_spot shp_st ρ _ _ w h)
  ·exact owe_box rfl wA rfl (oS 1 1) rfl (fun ρ w h => box_rat (shp_pr shp_zv shp_zv) ρ _ _ w h)
  ·exact owe_new rfl wA rfl rfl (fun ρ w => alloc_int ρ _ w)
  ·exact owe_new rfl wA rfl rfl (fun ρ w => alloc_int ρ _ w)
  ·exact mC
 intro _ a1 _ (S1 : Sta w 61 [(2, (qcscy2 pa nD nL nT K D L τ dn k Ks KB KN KR sh b N R)), (3, (.box 32 (PR (Zv rn Kr) (Zv rd Kr)))), (4, (qcscy0)), (5, (qcscy0))] [] _ _ _)
 refine wq [.val (SP (AP pa nD nL nT K D L τ dn) (Vv k sh Ks) (Zv b KB) (Zv N KN) (Zv R KR)), .val (PR (Zv rn Kr) (Zv rd Kr)), .val ((TWO (ZN (ρ)) (IS (.bool true))) w.heap.size), .val ((TWO (ZN (ρ)) (IS (.bool true))) w.heap.size), .val ((ZN (ρ)) w.heap.size), kT, .new (qcscy0), .put (.inr 6) (qcscy4 w ρ), kT] [.inr 0, .inr 2, .inr 3, .inl 6] [.inl 8] S1 ?_ ?_
 ·repeat' refine And.intro ?_ ?_
  ·trivial
  ·exact lod 0 wA (loads_of strct_spot shp_st)
  ·exact lod 1 wA (loads_of strct_rat (shp_pr shp_zv shp_zv))
  ·exact ch2 wA (qO 0 18 rfl) (qO 1 19 rfl) (fresh_two (fresh_zn _) (fresh_is _)) (fun w u r h1 h2 => hre w u r h1 h2)
  ·exact mO 2 20
  ·exact e20 wA (oO 3 17)
  ·exact e21 wA (oO 3 17)
  ·exact owe_new rfl wA rfl rfl (fun ρ w => alloc_int ρ _ w)
  ·exact owe_put 6 rfl wA rfl (by kernel_rfl) rfl (oO 4 21) (stores_of strct_int shp_z0 shp_zn) rfl
  ·exact mO 5 22
 intro _ a2 _ (S2 : Sta w 61 [(2, (qcscy2 pa nD nL nT K D L τ dn k Ks KB KN KR sh b N R)), (4, (qcscy0)), (5, (qcscy0)), (7, (qcscy4 w ρ))] [(8, bT)] _ _ _)
 refine wp_seq ?_
 refine wq [kT, kF] [.inr 0, .inr 1, .inr 2, .inr 3] [.inl 1] S2 ?_ ?_
 ·apply jj2
  ·exact mS 0 8
  ·exact b_not wA (oO 0 23)
 intro _ a3 _ (S3 : Sta w 61 [(2, (qcscy2 pa nD nL nT K D L τ dn k Ks KB KN KR sh b N R)), (4, (qcscy0)), (5, (qcscy0)), (7, (qcscy4 w ρ))] [(24, bF)] _ _ _)
 refine wp_cond_false (S3.bool 0 24 rfl) (wp_skip (thenN ?_))
 refine wq [.val (SP (AP pa nD nL nT K D L τ dn) (Vv k sh Ks) (Zv b KB) (Zv N KN) (Zv R KR)), .val ((PRF (ZN (cn)) (ZN (cd))) w.heap.size), .new (.box 32 zR), .put (.inr 2) (.box 32 ((PRF (ZN (cn)) (ZN (cd))) w.heap.size))] [.inr 0, .inr 1, .inr 2, .inr 3, .inl 2] [] S3 ?_ ?_
 ·apply jj4
  ·exact lod 0 wA (loads_of strct_spot shp_st)
  ·exact ch1 wA (qO 0 27 rfl) (fresh_prf (fresh_zn _) (fresh_zn _)) (fun w u0 h0 => Gives.cast (sct_w w pa nD nL nT K D L τ dn hD hL hT hK lD lL lT u0 _ _ _ _ _ _ _ _ _ h0 hk ls hnT hnD T0 D1 eT eD hKB) (by rw [ecn, ecd]))
  ·exact owe_new rfl wA rfl rfl (fun ρ w => alloc_rat ρ _ w)
  ·exact owe_put 2 rfl wA rfl (by kernel_rfl) rfl (oO 1 28) (stores_of strct_rat shp_r0 (shp_pr shp_zn shp_zn)) rfl
 intro _ a4 _ (S4 : Sta w 61 [(2, (qcscy2 pa nD nL nT K D L τ dn k Ks KB KN KR sh b N R)), (4, (qcscy0)), (5, (qcscy0)), (7, (qcscy4 w ρ)), (9, (.box 32 ((PRF (ZN (cn)) (ZN (cd))) w.heap.size)))] [] _ _ _)
 refine wq [.val (Part a4 9 0), .val ((ZN (cn)) w.heap.size), .val ((ZN (ρ)) w.heap.size), .val ((ZN (cn + ρ)) w.heap.size), .val (Part a4 9 2), .val ((ZN (cd)) w.heap.size), .val ((THREE (ZN (hi)) (ZN (rm (cn + ρ) cd)) (IS (.int .i64 0))) w.heap.size), .val ((THREE (ZN (hi)) (ZN (rm (cn + ρ) cd)) (IS (.int .i64 0))) w.heap.size), .val ((ZN (hi)) w.heap.size), .val ((ZN (rm (cn + ρ) cd)) w.heap.size), .val (iV 0), .new (qcscy0), .new (qcscy0), .put (.inr 11) (qcscy1 w hi), .put (.inr 12) (.box 29 ((ZN (rm (cn + ρ) cd)) w.heap.size)), .val (iV 0)] [.inr 0, .inr 1, .inr 2, .inr 3, .inr 4, .inl 11, .inl 12] [] S4 ?_ ?_
 ·repeat' refine And.intro ?_ ?_
  ·trivial
  ·exact owe_part rfl wA rfl (k := 4) rfl (by kernel_rfl) rfl (fun ρ w b h => part_rat0 ρ _ _ w b 0 h)
  ·exact owe_pload rfl wA rfl (oO 0 30) (k := 4) rfl (by kernel_rfl) rfl (fun ρ w b u h1 h2 h3 => pload_num ρ _ _ w b u h1 h2 h3)
  ·exact lod 3 wA (loads_of strct_int shp_zn)
  ·exact cc2 wA (qO 1 31 rfl) (qO 2 32 rfl) (fresh_zn _) (fun w u v h1 h2 => g_zadd (by omega) (by omega) w u v ((zn_zv q2) _ _ h1) ((zn_zv hρ) _ _ h2))
  ·exact owe_part rfl wA rfl (k := 4) rfl (by kernel_rfl) rfl (fun ρ w b h => part_rat1 ρ _ _ w b 0 h)
  ·exact owe_pload rfl wA rfl (oO 4 34) (k := 4) rfl (by kernel_rfl) rfl (fun ρ w b u h1 h2 h3 => pload_den ρ _ _ w b u h1 h2 h3)
  ·exact cc2 wA (qO 3 33 rfl) (qO 5 35 rfl) (fresh_three (fresh_zn _) (fresh_zn _) (fresh_is _)) (fun w u v h1 h2 => Gives.cast (ψ := (THREE (ZN (hi)) (ZN (rm (cn + ρ) cd)) (IS (.int .i64 0)))) (g_zfloor hcd (by omega) (by omega) w u v ((zn_zv q4) _ _ h1) ((zn_zv q3) _ _ h2)) (by rw [eH]))
  ·exact mO 6 36
  ·exact e30 wA (oO 7 29)
  ·exact e31 wA (oO 7 29)
  ·exact e32 wA (oO 7 29)
  ·exact owe_new rfl wA rfl rfl (fun ρ w => alloc_int ρ _ w)
  ·exact owe_new rfl wA rfl rfl (fun ρ w => alloc_int ρ _ w)
  ·exact owe_put 11 rfl wA rfl (by kernel_rfl) rfl (oO 8 37) (stores_of strct_int shp_z0 shp_zn) rfl
  ·exact owe_put 12 rfl wA rfl (by kernel_rfl) rfl (oO 9 38) (stores_of strct_int shp_z0 shp_zn) rfl
  ·exact mO 10 39
 intro _ a5 _ (S5 : Sta w 61 [(2, (qcscy2 pa nD nL nT K D L τ dn k Ks KB KN KR sh b N R)), (4, (qcscy0)), (5, (qcscy0)), (7, (qcscy4 w ρ)), (9, (.box 32 ((PRF (ZN (cn)) (ZN (cd))) w.heap.size))), (10, (qcscy1 w hi)), (11, (.box 29 ((ZN (rm (cn + ρ) cd)) w.heap.size)))] [] _ _ _)
 refine wq [.val ((ZN (ρ)) w.heap.size), .val (Part a5 9 0), .val ((ZN (cn)) w.heap.size), .val ((ZN (ρ - cn)) w.heap.size), .val (Part a5 9 2), .val ((ZN (cd)) w.heap.size), .val ((THREE (ZN (tn)) (ZN (rm (ρ - cn) cd)) (IS (.int .i64 0))) w.heap.size), .val ((THREE (ZN (tn)) (ZN (rm (ρ - cn) cd)) (IS (.int .i64 0))) w.heap.size), .val ((ZN (tn)) w.heap.size), .val ((ZN (rm (ρ - cn) cd)) w.heap.size), .val (iV 0), .new (qcscy0), .new (qcscy0), .put (.inr 11) (.box 29 ((ZN (tn)) w.heap.size)), .put (.inr 12) (.box 29 ((ZN (rm (ρ - cn) cd)) w.heap.size)), .val (iV 0)] [.inr 0, .inr 1, .inr 2, .inr 5, .inl 11, .inl 12] [] S5 ?_ ?_
 ·repeat' refine And.intro ?_ ?_
  ·trivial
  ·exact lod 3 wA (loads_of strct_int shp_zn)
  ·exact owe_part rfl wA rfl (k := 4) rfl (by kernel_rfl) rfl (fun ρ w b h => part_rat0 ρ _ _ w b 0 h)
  ·exact owe_pload rfl wA rfl (oO 1 42) (k := 4) rfl (by kernel_rfl) rfl (fun ρ w b u h1 h2 h3 => pload_num ρ _ _ w b u h1 h2 h3)
  ·exact cc2 wA (qO 0 41 rfl) (qO 2 43 rfl) (fresh_zn _) (fun w u v h1 h2 => g_zsub (by omega) (by omega) w u v ((zn_zv hρ) _ _ h1) ((zn_zv q2) _ _ h2))
  ·exact owe_part rfl wA rfl (k := 4) rfl (by kernel_rfl) rfl (fun ρ w b h => part_rat1 ρ _ _ w b 0 h)
  ·exact owe_pload rfl wA rfl (oO 4 45) (k := 4) rfl (by kernel_rfl) rfl (fun ρ w b u h1 h2 h3 => pload_den ρ _ _ w b u h1 h2 h3)
  ·exact cc2 wA (qO 3 44 rfl) (qO 5 46 rfl) (fresh_three (fresh_zn _) (fresh_zn _) (fresh_is _)) (fun w u v h1 h2 => Gives.cast (ψ := (THREE (ZN (tn)) (ZN (rm (ρ - cn) cd)) (IS (.int .i64 0)))) (g_zfloor hcd (by omega) (by omega) w u v ((zn_zv q5) _ _ h1) ((zn_zv q3) _ _ h2)) (by rw [eL]))
  ·exact mO 6 47
  ·exact e30 wA (oO 7 40)
  ·exact e31 wA (oO 7 40)
  ·exact e32 wA (oO 7 40)
  ·exact owe_new rfl wA rfl rfl (fun ρ w => alloc_int ρ _ w)
  ·exact owe_new rfl wA rfl rfl (fun ρ w => alloc_int ρ _ w)
  ·exact owe_put 11 rfl wA rfl (by kernel_rfl) rfl (oO 8 48) (stores_of strct_int shp_z0 shp_zn) rfl
  ·exact owe_put 12 rfl wA rfl (by kernel_rfl) rfl (oO 9 49) (stores_of strct_int shp_z0 shp_zn) rfl
  ·exact mO 10 50
 intro _ a6 _ (S6 : Sta w 61 [(2, (qcscy2 pa nD nL nT K D L τ dn k Ks KB KN KR sh b N R)), (4, (qcscy0)), (5, (qcscy0)), (10, (qcscy1 w hi)), (13, (.box 29 ((ZN (tn)) w.heap.size))), (14, (.box 29 ((ZN (rm (ρ - cn) cd)) w.heap.size)))] [] _ _ _)
 refine wq [.val ((ZN (tn)) w.heap.size), .val ((ZN (-tn)) w.heap.size), .new (qcscy0), .put (.inr 2) (qcscy3 w tn)] [.inr 0, .inr 1, .inr 2, .inr 3, .inl 2] [] S6 ?_ ?_
 ·apply jj4
  ·exact lod 4 wA (loads_of strct_int shp_zn)
  ·exact cc1 wA (qO 0 51 rfl) (fresh_zn _) (fun w u h1 => g_zneg (by omega) w u ((zn_zv q7) _ _ h1))
  ·exact owe_new rfl wA rfl rfl (fun ρ w => alloc_int ρ _ w)
  ·exact owe_put 2 rfl wA rfl (by kernel_rfl) rfl (oO 1 52) (stores_of strct_int shp_z0 shp_zn) rfl
 intro _ a7 _ (S7 : Sta w 61 [(2, (qcscy2 pa nD nL nT K D L τ dn k Ks KB KN KR sh b N R)), (4, (qcscy0)), (5, (qcscy0)), (10, (qcscy1 w hi)), (16, (qcscy3 w tn))] [] _ _ _)
 refine wp_seq ?_
 refine wq [.val ((ZN (-tn)) w.heap.size), .val ((ZN (hi)) w.heap.size), .val (iV (((-tn) - hi).sign)), kF] [.inr 0, .inr 1, .inr 2, .inr 3, .inr 4] [.inl 3] S7 ?_ ?_
 ·apply jj4
  ·exact lod 4 wA (loads_of strct_int shp_zn)
  ·exact lod 3 wA (loads_of strct_int shp_zn)
  ·exact cc2 wA (qO 0 53 rfl) (qO 1 54 rfl) (fresh_is _) (fun w u v h1 h2 => h_zcmp (by omega) (by omega) w u v ((zn_zv q8) _ _ h1) ((zn_zv q6) _ _ h2))
  ·exact b_gtr_int_f wA (oO 2 55) (opnd_const _) (h := hsg)
 intro _ a8 _ (S8 : Sta w 61 [(2, (qcscy2 pa nD nL nT K D L τ dn k Ks KB KN KR sh b N R)), (4, (qcscy0)), (5, (qcscy0)), (10, (qcscy1 w hi)), (16, (qcscy3 w tn))] [(56, bF)] _ _ _)
 refine wp_cond_false (S8.bool 0 56 rfl) (wp_skip (thenN ?_))
 refine wq [.val ((ZN (-tn)) w.heap.size), .val ((ZN (hi)) w.heap.size), .put (.inl 4) (qcscy3 w tn), .put (.inl 5) (qcscy1 w hi), kT] [.inr 0, .inr 1, .inr 2] [.inl 4] S8 ?_ ?_
 ·apply jj5
  ·exact lod 4 wA (loads_of strct_int shp_zn)
  ·exact lod 3 wA (loads_of strct_int shp_zn)
  ·exact owe_set rfl wA rfl (k := 1) rfl (by kernel_rfl) (oO 0 59) (stores_of strct_int shp_z0 shp_zn) rfl
  ·exact owe_set rfl wA rfl (k := 2) rfl (by kernel_rfl) (oO 1 60) (stores_of strct_int shp_z0 shp_zn) rfl
  ·exact mC
 intro _ a9 _ (S9 : Sta w 61 [(2, (qcscy2 pa nD nL nT K D L τ dn k Ks KB KN KR sh b N R)), (4, (qcscy3 w tn)), (5, (qcscy1 w hi))] [(6, bT)] _ _ _)
 refine wp_ret ?_
 exact end_three S9 rfl (res_cell S9 1 4 rfl strct_int shp_zn) (res_cell S9 2 5 rfl strct_int shp_zn) (res_tmp S9 0 6 rfl)

end Go.Proofs.Ytoeopdmaogmjhaa

/-
 Calls that answer four values.
-/
namespace Go.Proofs.Ytoeopdmaogmjhaa
open Go Go.RowKit Nt
set_option linter.unusedSimpArgs false
set_option linter.unusedVariables false
set_option maxRecDepth 20000

def FOUR (φ ψ χ θ : Nat → Pr) : Nat → Pr := fun lo v w => ∃ x y z t, v = .tuple #[x, y, z, t] ∧ φ lo x w ∧ ψ lo y w ∧ χ lo z w ∧ θ lo t w
theorem fresh_four {φ ψ χ θ : Nat → Pr} (h : Fresh φ) (h' : Fresh ψ) (h'' : Fresh χ) (h3 : Fresh θ) : Fresh (FOUR φ ψ χ θ) :=
 ⟨fun lo lo' v w hl ⟨x, y, z, t, e, a, b, c, d⟩ => ⟨x, y, z, t, e, h.mono _ _ _ _ hl a, h'.mono _ _ _ _ hl b, h''.mono _ _ _ _ hl c, h3.mono _ _ _ _ hl d⟩, fun lo v w w' B hB ⟨x, y, z, t, e, a, b, c, d⟩ ev => ⟨x, y, z, t, e, h.ev _ _ _ _ B hB a ev, h'.ev _ _ _ _ B hB b ev, h''.ev _ _ _ _ B hB c ev, h3.ev _ _ _ _ B hB d ev⟩⟩
theorem results_four {P : Program} {fn : Func} {tmps : Array Value} {W : World} {r r' r'' r3 : ResultVar} {v v' v'' v3 : Value} (hr : fn.results = #[r, r', r'', r3]) (h : (resOf r tmps).run P W = .ok v W) (h' : (resOf r' tmps).run P W = .ok v' W) (h'' : (resOf r'' tmps).run P W = .ok v'' W) (h3 : (resOf r3 tmps).run P W = .ok v3 W) : (results fn tmps).run P W = .ok (.tuple #[v, v', v'', v3]) W := by
 rw [results_eq, hr]
 simp [Sem.run_bind, h, h', h'', h3]
theorem end_four {w0 W : World} {n : Nat} {bx : Bxs} {sl : List (Tmp × Pr)} {B : Nat → Prop} {a : Act} {fn : Func} {r r' r'' r3 : ResultVar} {φ ψ χ θ : Nat → Pr} (S : Sta w0 n bx sl B a W) (hr : fn.results = #[r, r', r'', r3]) (h : ∃ v, (resOf r a.tmps).run Try.prog W = .ok v W ∧ φ w0.heap.size v W) (h' : ∃ v, (resOf r' a.tmps).run Try.prog W = .ok v W ∧ ψ w0.heap.size v W) (h'' : ∃ v, (resOf r'' a.tmps).run Try.prog W = .ok v W ∧ χ w0.heap.size v W) (h3 : ∃ v, (resOf r3 a.tmps).run Try.prog W = .ok v W ∧ θ w0.heap.size v W) : bodyPost Try.prog fn (Gives (FOUR φ ψ χ θ) w0) .ret a W := by
 obtain ⟨v, h1, h2⟩ := h
 obtain ⟨v', h1', h2'⟩ := h'
 obtain ⟨v'', h1'', h2''⟩ := h''
 obtain ⟨v3, h13, h23⟩ := h3
 exact bodyPost_ret (results_four hr h1 h1' h1'' h13) S.dfr ⟨_, rfl, S.ent, v, v', v'', v3, rfl, h2, h2', h2'', h23⟩
section
variable {ops : Array Oper} {l : List Kd} {bx : Bxs} {sl : List (Tmp × Pr)} {i : Nat} {o : Oper} {Q : Exit → Act → World → Prop} {a0 : Act} {n : Nat} {w0 : World}
theorem owe_ext4 {φ ψ χ ξ : Nat → Pr} {θ : Pr} {x : Operand} {k lo : Nat} (ho : ops[i]? = some o) (hw : Wants ops l bx sl i o) (hop : o.op = .extract x k) (h : Opnd ops l bx sl i x (FOUR φ ψ χ ξ lo)) (hχ : (k = 0 ∧ θ = φ lo) ∨ (k = 1 ∧ θ = ψ lo) ∨ (k = 2 ∧ θ = χ lo) ∨ (k = 3 ∧ θ = ξ lo)) (hk : kdAt l i = .val θ) : Owed Try.prog ops Q l bx sl a0 n w0 i :=
  owe_val ho hw hk fun vs B a w c => by
    have hx := h a0 n w0 vs B a w c
    obtain ⟨y, z, u, t, e, _, _, _, _⟩ := hx.now
    rcases hχ with ⟨rfl, rfl⟩ | ⟨rfl, rfl⟩ | ⟨rfl, rfl⟩ | ⟨rfl, rfl⟩
    · refine ⟨y, ?_, fun w' e' => ?_⟩
      · unfold execOp
        rw [hop]
        generalize a.eval = ρ at e
        go_simp
      · obtain ⟨y', z', u', t', e1, h1, _, _, _⟩ := hx w' e'
        rw [e] at e1
        simp at e1
        rw [e1.1]; exact h1
    · refine ⟨z, ?_, fun w' e' => ?_⟩
      · unfold execOp
        rw [hop]
        generalize a.eval = ρ at e
        go_simp
      · obtain ⟨y', z', u', t', e1, _, h1, _, _⟩ := hx w' e'
        rw [e] at e1
        simp at e1
        rw [e1.2.1]; exact h1
    · refine ⟨u, ?_, fun w' e' => ?_⟩
      · unfold execOp
        rw [hop]
        generalize a.eval = ρ at e
        go_simp
      · obtain ⟨y', z', u', t', e1, _, _, h1, _⟩ := hx w' e'
        rw [e] at e1
        simp at e1
        rw [e1.2.2.1]; exact h1
    · refine ⟨t, ?_, fun w' e' => ?_⟩
      · unfold execOp
        rw [hop]
        generalize a.eval = ρ at e
        go_simp
      · obtain ⟨y', z', u', t', e1, _, _, _, h1⟩ := hx w' e'
        rw [e] at e1
        simp at e1
        rw [e1.2.2.2]; exact h1
end
end Go.Proofs.Ytoeopdmaogmjhaa

/-
 What a callee made becomes the caller's own: a row that it grew and hands back.
-/
namespace Go.Proofs.Ytoeopdmaogmjhaa
open Go Go.RowKit Nt
set_option linter.unusedSimpArgs false
set_option linter.unusedVariables false
set_option maxRecDepth 20000

/-- Two sets of blocks turn: one, and then the other. -/
theorem ev_split {B1 B2 : Nat → Prop} {w w2 : World} (e : Ev (fun k => B1 k ∨ B2 k) w w2) : ∃ w1, Ev B1 w w1 ∧ Ev B2 w1 w2 := by
 classical
 refine ⟨{ w2 with heap := w2.heap.mapIdx (fun k o => if B2 k then (w.heap[k]?).getD o else o) }, ⟨e.os, e.tape, e.output, by simp; exact e.size, fun k hk hn => ?_⟩, ⟨rfl, rfl, rfl, by simp, fun k hk hn => ?_⟩⟩
 ·have hk2 : k < w2.heap.size := Nat.lt_of_lt_of_le hk e.size
  simp only [Array.getElem?_mapIdx]
  rw [Array.getElem?_eq_getElem hk2]
  by_cases hb : B2 k
  ·rw [Option.map_some, if_pos hb, Array.getElem?_eq_getElem hk]
   rfl
  ·rw [Option.map_some, if_neg hb]
   have := e.block k hk (fun h => h.elim hn hb)
   rw [← this, Array.getElem?_eq_getElem hk2]
 ·have hk2 : k < w2.heap.size := by simpa using hk
  simp only [Array.getElem?_mapIdx]
  rw [Array.getElem?_eq_getElem hk2, Option.map_some, if_neg hn]
/-- A row in a block of its own from lo on: what it holds stays, whatever becomes of that block. -/
def LFW (E sz n : Nat) (ψs : List (Nat → Pr)) : Nat → Pr := fun lo v w => ∃ ys, w.ownsRow lo E sz v n ys ∧ ∀ w1, Ev (fun k => vblock v = some k) w w1 → CE sz (ψs.map (· lo)) ys w1
theorem ownsW_mono {w : World} {lo lo' e size n : Nat} {v : Value} {xs : List Value} (hl : lo' ≤ lo) (h : w.ownsRow lo e size v n xs) : w.ownsRow lo' e size v n xs := by
 refine ⟨h.1, ?_⟩
 rcases h.2 with h1 | ⟨g, cap, cur, h1, hg0, h2⟩
 ·exact Or.inl h1
 ·exact Or.inr ⟨g, cap, cur, h1, Nat.le_trans hl hg0, h2⟩
theorem ownsW_ev {B : Nat → Prop} {w w' : World} {lo e size n : Nat} {v : Value} {xs : List Value} (h : w.ownsRow lo e size v n xs) (hB : ∀ k, vblock v = some k → ¬ B k) (ev : Ev B w w') : w'.ownsRow lo e size v n xs := by
 refine ⟨h.1, ?_⟩
 rcases h.2 with h1 | ⟨g, cap, cur, rfl, hg0, hg, h2⟩
 ·exact Or.inl h1
 ·exact Or.inr ⟨g, cap, cur, rfl, hg0, (ev.block g (Array.getElem?_eq_some_iff.1 hg).1 (hB g rfl)).trans hg, h2⟩
theorem ownsW_lo {w : World} {lo e size n k : Nat} {v : Value} {xs : List Value} (h : w.ownsRow lo e size v n xs) (hk : vblock v = some k) : lo ≤ k ∧ k < w.heap.size := by
 rcases h.2 with ⟨rfl, _⟩ | ⟨g, cap, cur, rfl, hg0, hg, h2⟩
 ·cases hk
 ·cases hk
  exact ⟨hg0, (Array.getElem?_eq_some_iff.1 hg).1⟩
theorem ce_map {sz lo lo' : Nat} {ψs : List (Nat → Pr)} {ys : List Value} {w w' : World} (h : ∀ (i : Nat) ψ, ψs[i]? = some ψ → ∀ v, ψ lo v w → ψ lo' v w') (hc : CE sz (ψs.map (· lo)) ys w) : CE sz (ψs.map (· lo')) ys w' := by
 obtain ⟨us, e, l, c, a⟩ := hc
 refine ⟨us, e, by simpa using l, c, fun i u φ hu hφ => ?_⟩
 obtain ⟨ψ, hψ, rfl⟩ := map_get hφ
 exact h i ψ hψ u (a i u (ψ lo) hu (by rw [List.getElem?_map, hψ]; rfl))
/-- The row as it is handed back. -/
theorem Sta.freezeW {w0 W : World} {n : Nat} {bx bx' : Bxs} {sl : List (Tmp × Pr)} {B : Nat → Prop} {a : Act} (S : Sta w0 n bx sl B a W) (k : Nat) {t e size n' : Nat} {ψs : List (Nat → Pr)} (h : bx[k]? = some (t, .row e size n' (CE size (ψs.map (· w0.heap.size))))) (hs : ∀ x ∈ bx', x ∈ bx ∧ x.1 ≠ t) :
  Sta w0 n bx' ((t, LFW e size n' ψs w0.heap.size) :: sl) (fun j => B j ∧ vblock (a.eval (.tmp t)) ≠ some j) a W := by
 have S2 := S.freeze (bx' := bx') k h hs (φ := fun _ _ => True) (fun _ _ _ _ _ => trivial)
 have hm := List.mem_of_getElem? h
 obtain ⟨xs, hown, hB, hχ⟩ := S.box _ hm
 refine ⟨S2.ent, S2.bnd, S2.siz, S2.dfr, S2.box, S2.sep, fun x hx => ?_⟩
 rcases List.mem_cons.1 hx with rfl | hx
 ·intro w' ew
  refine ⟨xs, ownsW_ev hown (fun k hk hb => hb.2 hk) ew, fun w1 e1 => hχ w1 ?_⟩
  refine Ev.back (ew.mono (fun k hk => hk.1)) (fun k _ hk => ?_) e1
  exact hB k hk
 ·exact S2.slt x (List.mem_cons_of_mem _ hx)
section
variable {ops : Array Oper} {l : List Kd} {bx : Bxs} {sl : List (Tmp × Pr)} {i : Nat} {o : Oper} {Q : Exit → Act → World → Prop} {a0 : Act} {n0 : Nat} {w0 : World}
/-- A call that hands back a row in a block of its own: it becomes the caller's. -/
theorem owe_take1 {f : FuncId} {x : Operand} {ts : Array TypeId} {φ : Pr} {E sz n : Nat} {ψs : List (Nat → Pr)} (ho : ops[i]? = some o) (hw : Wants ops l bx sl i o) (hop : o.op = .call { callee := .value (.func f), args := #[x], argTypes := ts }) (hx : Opnd ops l bx sl i x φ) (hF : ∀ (i : Nat) ψ, ψs[i]? = some ψ → Fresh ψ) (hk : kdAt l i = .new (.row E sz n (CE sz (ψs.map (· w0.heap.size)))))
    (hcf : ∀ args w, (callFunc f args).run Try.prog w = .ok (.enter f args) w) (C : ∀ w u, Hs w φ u → Calls Try.prog f #[u] w (Gives (LFW E sz n ψs) w)) : Owed Try.prog ops Q l bx sl a0 n0 w0 i := fun vs B a w c o' ho' => by
  obtain rfl : o = o' := Option.some.inj (ho.symm.trans ho')
  have h1 := hx a0 n0 w0 vs B a w c
  have hr : (execOp a.eval o).run Try.prog w = .ok (.enter f #[a.eval x]) w := by
    unfold execOp
    rw [hop]
    have hf : a.eval (.func f) = .func (.func f) #[] #[] := rfl
    generalize a.eval = ρ at hf
    go_simp
  simp only [wpOp, ho]
  rw [if_pos (hw a0 n0 w0 vs B a w c)]
  refine Or.inl ?_
  unfold Oper.wp
  rw [hr, Oper.upon_enter]
  refine (C w _ h1.hs).mono ?_
  rintro e w' ⟨r, rfl, hb, ys, hown, hce⟩
  refine ⟨r, rfl, ?_⟩
  rw [hk]
  refine ⟨hb, fun b hb' => ownsW_lo hown hb', ys, ownsW_mono c.lo hown, fun b hb' => Or.inr hb', fun w'' e'' => ?_⟩
  have e2 : Ev (fun k => vblock r = some k ∨ B k) w' w'' := e''.mono (fun k hk => hk.symm)
  obtain ⟨y, e3, e4⟩ := ev_split e2
  exact ce_map (fun i ψ hψ v hv => (hF i ψ hψ).mono _ _ _ _ c.lo ((hF i ψ hψ).ev _ _ _ _ B (fun k hk => (c.bnd k hk).2) hv e4)) (hce y e3)
end
end Go.Proofs.Ytoeopdmaogmjhaa
