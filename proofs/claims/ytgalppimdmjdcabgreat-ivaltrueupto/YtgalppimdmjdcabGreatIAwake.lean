/-
  The law's own calls of layer 9, and IvalSums' walk.
-/
import Derived.Test.YtgalppimdmjdcabGreatIExact
import Derived.Test.YtgalppimdmjdcabGreatIVal1
namespace Go.Proofs.YtgalppimdmjdcabGreat
open Go Go.RowKit Nt
set_option linter.unusedSimpArgs false
set_option linter.unusedVariables false
set_option maxRecDepth 20000

theorem exact_half (w : World) : Calls Tryz.prog 17 #[.float .f64 4602678819172646912] w (Gives (TWO (RN 1 2) (IS (.bool true))) w) := by
  have h1 := Frexp_p (frexp_n 0 1022 0 (by decide) (by decide) (by decide) (by decide)) rfl
  have h2 := Ldexp_p (ldexp_n 0 0 (by decide) (by decide))
  have h3 := toInt_of (dec_n 0 0 (by decide) (by decide)) (by decide)
  have := exact_lt w 4602678819172646912 _ _ (by decide) 4602678819172646912 rfl (by decide) 0 4503599627370496 h1 h2 h3 (by decide) (by decide) (digs_length_le (by decide)) (by decide) (by decide) 9007199254740992 (by decide) (by decide) (by decide) (Nat.le_trans (digs_length_le (k := 2) (by decide)) (by decide))
  rw [show nR 4503599627370496 9007199254740992 = 1 from by decide, show dR 4503599627370496 9007199254740992 = 2 from by decide] at this
  exact this
theorem g_rcmpI {A B : Int} {ka kb : Nat} (hk : ka ≤ 35184372088831) (hk' : kb ≤ 35184372088831) : ∀ w u v, Zv A ka u w → Zv B kb v w → Calls Tryz.prog 39 #[u, v] w (Gives (IS (.int .i64 (A - B).sign)) w) := by
  rintro w u v ⟨s, p, n, c, xs, rfl, h, rfl, hn⟩ ⟨t, q, m, d, ys, rfl, h', rfl, hm⟩
  exact (zrcmp_c w s t p q n c m d xs ys h h' (by omega) (by omega)).mono fun e w' ⟨he, hb⟩ => ⟨_, he, hb, rfl⟩

theorem pur_is {f : FuncId} {x : Value} {ψ : Nat → Pr} (h : ∀ w, Calls Tryz.prog f #[x] w (Gives ψ w)) : ∀ w u, Is x u w → Calls Tryz.prog f #[u] w (Gives ψ w) := fun w u e => by obtain rfl : u = x := e; exact h w
set_option maxHeartbeats 400000 in
theorem whole_w (w : World) (u v : Value) (A : Int) (ka kb : Nat) (hk : ka ≤ 35184372088831) (hk' : kb ≤ 35184372088831) (hu : Has (fun _ => False) w (Zv A ka) u) (hv : Has (fun _ => False) w (Zv A kb) v) :
    Calls Tryz.prog 18 #[u, v] w (Gives (IS (.bool true)) w) := by
  refine calls_sta (sl := [(0, (Zv A ka)), (1, (Zv A kb))]) Tryz.func18 rfl Tryz.ntmps18 (by simp) (args_cons rfl (hu) (args_cons rfl (hv) args_nil)) ?_
  intro a0 S0
  refine wp_stmt_seq [.new (.box 27 (Zv A ka)), .new (.box 27 (Zv A kb)), kF] [.inl 0, .inl 1] [] follows S0 rfl (by kernel_rfl) ?_ ?_
  · refine ⟨⟨⟨trivial, ?_⟩, ?_⟩, ?_⟩
    · exact owe_box rfl wA rfl (oS 0 0) rfl (fun ρ w h => box_int shp_zv ρ _ _ w h)
    · exact owe_box rfl wA rfl (oS 1 1) rfl (fun ρ w h => box_int shp_zv ρ _ _ w h)
    · exact mC
  intro B1 a1 W1 (S1 : Sta w 9 [(2, (.box 27 (Zv A ka))), (3, (.box 27 (Zv A kb)))] [] _ _ _)
  refine wp_stmt_seq [.val (Zv A ka), .val (Zv A kb), .val (iV ((A - A).sign)), kT, kT] [] [.inl 4] follows S1 rfl (by kernel_rfl) ?_ ?_
  · refine ⟨⟨⟨⟨⟨trivial, ?_⟩, ?_⟩, ?_⟩, ?_⟩, ?_⟩
    · exact lod 0 wA (loads_of strct_int shp_zv)
    · exact lod 1 wA (loads_of strct_int shp_zv)
    · exact cc2 wA (qO 0 5 rfl) (qO 1 6 rfl) (fresh_is _) (fun w u v h1 h2 => g_rcmpI hk hk' w u v ((fun _ _ h => h) _ _ h1) ((fun _ _ h => h) _ _ h2))
    · exact b_eql_int_t wA (oO 2 7) (opnd_const _) (h := by rw [Int.sub_self]; rfl)
    · exact mO 3 8
  intro B2 a2 W2 (S2 : Sta w 9 [] [(4, bT)] _ _ _)
  refine wp_ret ?_
  exact end_one S2 rfl (res_tmp S2 0 4 rfl)

theorem zv_hasI {A : Int} {k : Nat} {u : Value} {w : World} (h : Zv A k u w) : Has (fun _ => False) w (Zv A k) u := fun w' e => by
  obtain ⟨s, p, n, c, xs, e1, h1, h2, h3⟩ := h
  exact ⟨s, p, n, c, xs, e1, sl_ev h1 (fun _ _ _ _ h => h) e, h2, h3⟩
theorem h_whole {A : Int} {ka kb : Nat} (hk : ka ≤ 35184372088831) (hk' : kb ≤ 35184372088831) : ∀ w u v, Zv A ka u w → Zv A kb v w → Calls Tryz.prog 18 #[u, v] w (Gives (IS (.bool true)) w) := fun w u v h1 h2 => whole_w w u v A ka kb hk hk' (zv_hasI h1) (zv_hasI h2)
theorem two_dlE : (digs (2 : Int).natAbs).length ≤ 1 := digs_length_le (by decide)
theorem two_dlF : (digs ((2 : Nat) : Int).natAbs).length ≤ 1 := digs_length_le (by decide)
set_option maxHeartbeats 400000 in
theorem awake_w (w : World) :
    Calls Tryz.prog 4 #[] w (Gives (IS (.bool true)) w) := by
  refine calls_sta (sl := []) Tryz.func4 rfl Tryz.ntmps4 (by simp) args_nil ?_
  intro a0 S0
  refine wp_stmt_seq [kF] [] [] follows S0 rfl (by kernel_rfl) ?_ ?_
  · refine ⟨trivial, ?_⟩
    · exact mC
  intro B1 a1 W1 (S1 : Sta w 24 [] [] _ _ _)
  refine wp_stmt_seq [.val ((TWO (RN 1 2) (IS (.bool true))) w.heap.size), .val ((TWO (RN 1 2) (IS (.bool true))) w.heap.size), .val ((RN 1 2) w.heap.size), kT, .new (.box 29 zR), .put (.inr 4) (.box 29 ((RN 1 2) w.heap.size)), kT] [.inl 4] [.inl 6] follows S1 rfl (by kernel_rfl) ?_ ?_
  · repeat' refine And.intro ?_ ?_
    · trivial
    · exact cc1 wA (opnd_const _) (fresh_two (fresh_rn _ _) (fresh_is _)) (pur_is exact_half)
    · exact mO 0 4
    · exact e20 wA (oO 1 3)
    · exact e21 wA (oO 1 3)
    · exact owe_new rfl wA rfl rfl (fun ρ w => alloc_rat ρ _ w)
    · exact owe_put 4 rfl wA rfl (by kernel_rfl) rfl (oO 2 5) (stores_of strct_rat shp_r0 (shp_pr shp_zn shp_zn)) rfl
    · exact mO 3 6
  intro B2 a2 W2 (S2 : Sta w 24 [(1, (.box 29 ((RN 1 2) w.heap.size)))] [(2, bT)] _ _ _)
  refine wp_stmt_seq [kT, kT, .val (Part a2 1 0), .val ((ZN (1)) w.heap.size), .val ((ZN (1)) w.heap.size), kT, kT, kT, .val (Part a2 1 2), .val ((ZN (((2 : Nat) : Int))) w.heap.size), .val ((ZN (2)) w.heap.size), kT, kT, kT, .val (FL (upP (plc 4607182418800017408))), kT, kT, kT] [] [.inl 17] follows S2 rfl (by kernel_rfl) ?_ ?_
  · repeat' refine And.intro ?_ ?_
    · trivial
    · exact mS 0 2
    · exact mO 0 7
    · exact owe_part rfl (wI 1 8) rfl (k := 0) rfl (by kernel_rfl) rfl (fun ρ w b h => part_rat0 ρ _ _ w b 0 h)
    · exact owe_pload rfl (wI 1 8) rfl (oO 2 9) (k := 0) rfl (by kernel_rfl) rfl (fun ρ w b u h1 h2 h3 => pload_num ρ _ _ w b u h1 h2 h3)
    · exact cc1 (wI 1 8) (opnd_const _) (fresh_zn _) (g_rof 1 (by omega) (by omega))
    · exact cc2 (wI 1 8) (qO 3 10 rfl) (qO 4 11 rfl) (fresh_is _) (fun w u v h1 h2 => h_whole (by omega) (by omega) w u v ((zn_zv one_dlE) _ _ h1) ((zn_zv one_dlE) _ _ h2))
    · exact pT wA (oO 1 8) (oO 5 12)
    · exact mO 6 13
    · exact owe_part rfl (wI 7 14) rfl (k := 0) rfl (by kernel_rfl) rfl (fun ρ w b h => part_rat1 ρ _ _ w b 0 h)
    · exact owe_pload rfl (wI 7 14) rfl (oO 8 15) (k := 0) rfl (by kernel_rfl) rfl (fun ρ w b u h1 h2 h3 => pload_den ρ _ _ w b u h1 h2 h3)
    · exact cc1 (wI 7 14) (opnd_const _) (fresh_zn _) (g_rof 2 (by omega) (by omega))
    · exact cc2 (wI 7 14) (qO 9 16 rfl) (qO 10 17 rfl) (fresh_is _) (fun w u v h1 h2 => h_whole (by omega) (by omega) w u v ((zn_zv two_dlF) _ _ h1) ((zn_zv two_dlE) _ _ h2))
    · exact pT wA (oO 7 14) (oO 11 18)
    · exact mO 12 19
    · exact cc1 (wI 13 20) (opnd_const _) (fresh_fl _) (purF1 (up_f 4607182418800017408 (by decide)))
    · exact owe_fcmp rfl (wI 13 20) rfl (oO 14 21) ((opnd_const _).imp (fl_is (by decide))) (by decide) rfl
    · exact pT wA (oO 13 20) (oO 15 22)
    · exact mO 16 23
  intro B3 a3 W3 (S3 : Sta w 24 [] [(0, bT)] _ _ _)
  refine wp_ret ?_
  exact end_one S3 rfl (res_tmp S3 0 0 rfl)
end Go.Proofs.YtgalppimdmjdcabGreat
