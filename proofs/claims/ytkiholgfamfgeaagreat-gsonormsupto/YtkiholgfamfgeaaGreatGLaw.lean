/-
  gso.Of, gso.Valid; the law's awake; GsoNames' walk.
-/
import Derived.Test.YtkiholgfamfgeaaGreatGsC
import Derived.Test.YtkiholgfamfgeaaGreatMBits
import Derived.Test.YtkiholgfamfgeaaGreatSetV
namespace Go.Proofs.YtkiholgfamfgeaaGreat
open Go Go.RowKit Nt
set_option linter.unusedSimpArgs false
set_option linter.unusedVariables false
set_option maxRecDepth 20000


theorem dl1 {z : Int} (h : z.natAbs < 4294967296) : (digs z.natAbs).length ≤ 1 := digs_length_le (by simpa using h)
theorem tk_ok0 {D L M : List Int} {z : Int} (h : z.natAbs < 4294967296) : TkOk D L M z 0 1 := ⟨fun k hk => by omega, fun k hk => by omega, fun k hk => by
  obtain rfl : k = 0 := by omega
  exact dl1 h⟩
theorem tk_ok1 {D L M : List Int} {z : Int} (h : z.natAbs < 4294967296) (h0 : D.getD 0 0 ≠ 0) (hx : rm (D.getD 1 0 * z - L.getD 0 0 * M.getD 0 0) (D.getD 0 0) = 0) (h1 : (tk D L M z 1).natAbs < 4294967296) : TkOk D L M z 1 1 := by
  refine ⟨fun k hk => ?_, fun k hk => ?_, fun k hk => ?_⟩
  · obtain rfl : k = 0 := by omega
    exact h0
  · obtain rfl : k = 0 := by omega
    exact hx
  · match k, hk with
    | 0, _ => exact dl1 h
    | 1, _ => exact dl1 h1
theorem lf_ok0 {D : List Int} {L Bm : List (List Int)} {R : List Int} (h : (dotR R R).natAbs < 4294967296) : LfOk D L Bm R 0 1 := ⟨fun j hj => by omega, tk_ok0 h⟩
theorem lf_ok1 {D : List Int} {L Bm : List (List Int)} {R : List Int} (h0 : (dotR R (Bm.getD 0 [])).natAbs < 4294967296) (h : TkOk D (lfL D L Bm R 1) (lfL D L Bm R 1) (dotR R R) 1 1) : LfOk D L Bm R 1 1 := ⟨fun j hj => by
  obtain rfl : j = 0 := by omega
  exact tk_ok0 h0, h⟩
/-- The two rows of the law. -/
abbrev SQ : List (List Int) := [[1, 1], [0, 2]]
theorem sq_ok : WdOk SQ 2 1 := fun i hi => by
  match i, hi with
  | 0, _ => exact lf_ok0 (by decide)
  | 1, _ => exact lf_ok1 (by decide) (tk_ok1 (by decide) (by decide) (by decide) (by decide))
theorem sq_D : gwD SQ 2 = [1, 2, 4] := by decide
theorem sq_L : gwL SQ 2 = [[], [2]] := by decide
theorem sq_d : ∀ i, i < 2 → gwd SQ i ≠ 0 := fun i hi => by
  match i, hi with
  | 0, _ => decide
  | 1, _ => decide
theorem sq_nar : nar SQ := fun i r h => by
  match i, h with
  | 0, h => simp at h; subst h; decide
  | 1, h => simp at h; subst h; decide
  | i + 2, h => simp at h
theorem sq_reg : Reg SQ 2 := fun i r h => by
  match i, h with
  | 0, h => simp at h; subst h; rfl
  | 1, h => simp at h; subst h; rfl
  | i + 2, h => simp at h
theorem nar_ml {A : List (List Int)} (h : nar A) : Ml A 1048576 := fun i r hr => Nat.le_trans (h i r hr) (by omega)
theorem sq_mdl : Mdl SQ 1 := fun i r h => by
  match i, h with
  | 0, h => simp at h; subst h; intro j z hz; match j, hz with | 0, hz => simp at hz; subst hz; exact dl1 (by decide) | 1, hz => simp at hz; subst hz; exact dl1 (by decide) | j + 2, hz => simp at hz
  | 1, h => simp at h; subst h; intro j z hz; match j, hz with | 0, hz => simp at hz; subst hz; exact dl1 (by decide) | 1, hz => simp at hz; subst hz; exact dl1 (by decide) | j + 2, hz => simp at hz
  | i + 2, h => simp at h
set_option maxHeartbeats 400000 in
theorem of_ok (w : World) (u : Value) (n x K : Nat) (Bm : List (List Int)) (h : Hs w (Mv n Bm K) u) (hn0 : 0 < n) (hn : n ≤ 12) (hx : x ≤ 12) (hK0 : 1 ≤ K) (hK : K ≤ 1048576) (lB : Bm.length = n) (hw : nar Bm) (hR : Reg Bm x) (hb : mx (bitsM Bm) ≤ 256) (ok : WdOk Bm n K) (hd : ∀ i, i < n → gwd Bm i ≠ 0) :
    Calls Tryz.prog 23 #[u] w (Gives (TWO (GN n (gwD Bm n) (gwL Bm n)) (IS (.int .i64 0))) w) := by
  refine calls_sta (sl := [(0, (Mv n Bm K))]) Tryz.func23 rfl Tryz.ntmps23 (by simp) (args_cons rfl (h) args_nil) ?_
  intro a0 S0
  refine wp_stmt_seq [.new (.box 25 (Is (.agg #[.slice none 0 0, .slice none 0 0]))), .val (iV 0)] [.inl 0] [.inr 0] follows S0 rfl (by kernel_rfl) ?_ ?_
  · refine ⟨⟨trivial, ?_⟩, ?_⟩
    · exact owe_new rfl wA rfl rfl (fun ρ w => alloc_gso ρ _ w)
    · exact mC
  intro B1 a1 W1 (S1 : Sta w 12 [(2, (.box 25 (Is (.agg #[.slice none 0 0, .slice none 0 0]))))] [(0, Mv n Bm K)] _ _ _)
  refine wp_seq ?_
  refine wp_stmt_seq [.val (Mv n Bm K), .val (iV (mx (bitsM Bm) : Nat)), kF] [.inr 0] [.inl 2, .inr 0] follows S1 rfl (by kernel_rfl) ?_ ?_
  · refine ⟨⟨⟨trivial, ?_⟩, ?_⟩, ?_⟩
    · exact mS 0 0
    · exact ch1 wA (qO 0 4 rfl) (fresh_is _) (fun w u h => mbits_w w u n K Bm h (by omega) (by omega) (nar_ml hw))
    · exact b_gtr_int_f wA (oO 1 5) (opnd_const _)
  intro B2 a2 W2 (S2 : Sta w 12 [(2, (.box 25 (Is (.agg #[.slice none 0 0, .slice none 0 0]))))] [(6, bF), (0, Mv n Bm K)] _ _ _)
  refine wp_cond_false (S2.bool 0 6 rfl) ?_
  refine wp_skip ?_
  refine thenN ?_
  refine wp_stmt_seq [.val (Mv n Bm K), .val ((TWO (GN n (gwD Bm n) (gwL Bm n)) (IS (.int .i64 0))) w.heap.size), .val (SF [((VN (n + 1) (gwD Bm n)) w.heap.size), ((MN n (gwL Bm n)) w.heap.size)]), .val (iV 0), .put (.inl 2) (.box 25 (SF [((VN (n + 1) (gwD Bm n)) w.heap.size), ((MN n (gwL Bm n)) w.heap.size)])), .val (iV 0)] [.inr 0] [.inl 5] follows S2 rfl (by kernel_rfl) ?_ ?_
  · refine ⟨⟨⟨⟨⟨⟨trivial, ?_⟩, ?_⟩, ?_⟩, ?_⟩, ?_⟩, ?_⟩
    · exact mS 1 0
    · exact ch1 wA (qO 0 8 rfl) (fresh_two fresh_gn (fresh_is _)) (fun w u h => wide_ok w u n x K Bm h hn0 hn hx hK0 (by omega) lB hw hR ok hd)
    · exact e20 wA (oO 1 9)
    · exact e21 wA (oO 1 9)
    · exact owe_set rfl wA rfl (k := 0) rfl (by kernel_rfl) (oO 2 10) (stores_of strct_gso shp_g0 shp_sf2) rfl
    · exact mO 3 11
  intro B3 a3 W3 (S3 : Sta w 12 [(2, (.box 25 (SF [((VN (n + 1) (gwD Bm n)) w.heap.size), ((MN n (gwL Bm n)) w.heap.size)])))] [(3, iV 0)] _ _ _)
  refine wp_ret ?_
  exact end_two S3 rfl (res_cell S3 0 2 rfl strct_gso shp_sf2) (res_tmp S3 0 3 rfl)

set_option maxHeartbeats 400000 in
theorem lawn_w (w : World) (z : Int) (h1 : -9223372036854775808 ≤ z) (h2 : z < 9223372036854775808) :
    Calls Tryz.prog 26 #[.int .i64 z] w (Gives (ZN (z)) w) := by
  refine calls_sta (sl := [(0, (iV z))]) Tryz.func26 rfl Tryz.ntmps26 (by simp) (args_cons rfl (is_has _) args_nil) ?_
  intro a0 S0
  refine wp_stmt_seq [.new (.box 28 zI)] [.inl 0] [.inr 0] follows S0 rfl (by kernel_rfl) ?_ ?_
  · refine ⟨trivial, ?_⟩
    · exact owe_new rfl wA rfl rfl (fun ρ w => alloc_int ρ _ w)
  intro B1 a1 W1 (S1 : Sta w 5 [(2, (.box 28 zI))] [(0, iV z)] _ _ _)
  refine wp_stmt_seq [.val (iV z), .val ((ZN (z)) w.heap.size), .put (.inl 2) (.box 28 ((ZN (z)) w.heap.size))] [.inr 0] [] follows S1 rfl (by kernel_rfl) ?_ ?_
  · refine ⟨⟨⟨trivial, ?_⟩, ?_⟩, ?_⟩
    · exact mS 0 0
    · exact cc1 wA (qO 0 3 rfl) (fresh_zn _) (g_rof z h1 h2)
    · exact owe_set rfl wA rfl (k := 0) rfl (by kernel_rfl) (oO 1 4) (stores_of strct_int shp_z0 shp_zn) rfl
  intro B2 a2 W2 (S2 : Sta w 5 [(2, (.box 28 ((ZN (z)) w.heap.size)))] [] _ _ _)
  refine wp_ret ?_
  exact end_one S2 rfl (res_cell S2 0 2 rfl strct_int shp_zn)

set_option maxHeartbeats 400000 in
theorem square_w (w : World) :
    Calls Tryz.prog 24 #[] w (Gives (MN 2 SQ) w) := by
  refine calls_sta (sl := []) Tryz.func24 rfl Tryz.ntmps24 (by simp) args_nil ?_
  intro a0 S0
  refine wp_stmt_seq [.val (Is (.slice none 0 0))] [] [] follows S0 rfl (by kernel_rfl) ?_ ?_
  · refine ⟨trivial, ?_⟩
    · exact mC
  intro B1 a1 W1 (S1 : Sta w 8 [] [] _ _ _)
  refine wp_stmt_seq [.val ((ZN (1)) w.heap.size), .val ((ZN (1)) w.heap.size), .val ((LF 2 2 ([(ZN (1)), (ZN (1))])) w.heap.size), .val ((ZN (0)) w.heap.size), .val ((ZN (2)) w.heap.size), .val ((LF 2 2 ([(ZN (0)), (ZN (2))])) w.heap.size), .val ((LF 1 2 ([(LF 2 2 ([(ZN (1)), (ZN (1))])), (LF 2 2 ([(ZN (0)), (ZN (2))]))])) w.heap.size), .val ((LF 1 2 ([(LF 2 2 ([(ZN (1)), (ZN (1))])), (LF 2 2 ([(ZN (0)), (ZN (2))]))])) w.heap.size)] [] [.inl 7] follows S1 rfl (by kernel_rfl) ?_ ?_
  · repeat' refine And.intro ?_ ?_
    · trivial
    · exact cc1 wA (opnd_const _) (fresh_zn _) (fun w u hu => by obtain rfl : u = _ := hu; exact lawn_w w 1 (by omega) (by omega))
    · exact cc1 wA (opnd_const _) (fresh_zn _) (fun w u hu => by obtain rfl : u = _ := hu; exact lawn_w w 1 (by omega) (by omega))
    · exact owe_lit2 rfl wA rfl bld2_int (by decide) (oO 0 1) (oO 1 2) zn_lit zn_lit rfl
    · exact cc1 wA (opnd_const _) (fresh_zn _) (fun w u hu => by obtain rfl : u = _ := hu; exact lawn_w w 0 (by omega) (by omega))
    · exact cc1 wA (opnd_const _) (fresh_zn _) (fun w u hu => by obtain rfl : u = _ := hu; exact lawn_w w 2 (by omega) (by omega))
    · exact owe_lit2 rfl wA rfl bld2_int (by decide) (oO 3 4) (oO 4 5) zn_lit zn_lit rfl
    · exact owe_lit2 rfl wA rfl bld2_row (by decide) (oO 2 3) (oO 5 6) vn_lit vn_lit rfl
    · exact mO 6 7
  intro B2 a2 W2 (S2 : Sta w 8 [] [(0, ((LF 1 2 ([(LF 2 2 ([(ZN (1)), (ZN (1))])), (LF 2 2 ([(ZN (0)), (ZN (2))]))])) w.heap.size))] _ _ _)
  refine wp_ret ?_
  exact end_one S2 rfl (res_tmp S2 0 0 rfl)

set_option maxHeartbeats 4000000 in
theorem gawake_w (w : World) :
    Calls Tryz.prog 9 #[] w (Gives (IS (.bool true)) w) := by
  refine calls_sta (sl := []) Tryz.func9 rfl Tryz.ntmps9 (by simp) args_nil ?_
  intro a0 S0
  refine wp_stmt_seq [kF] [] [] follows S0 rfl (by kernel_rfl) ?_ ?_
  · refine ⟨trivial, ?_⟩
    · exact mC
  intro B1 a1 W1 (S1 : Sta w 34 [] [] _ _ _)
  refine wp_stmt_seq [.val ((MN 2 SQ) w.heap.size), .val ((TWO (GN 2 ([1, 2, 4]) ([[], [2]])) (IS (.int .i64 0))) w.heap.size), .val ((TWO (GN 2 ([1, 2, 4]) ([[], [2]])) (IS (.int .i64 0))) w.heap.size), .val (SF [((VN (2 + 1) ([1, 2, 4])) w.heap.size), ((MN 2 ([[], [2]])) w.heap.size)]), .val (iV 0), .new (.box 25 (Is (.agg #[.slice none 0 0, .slice none 0 0]))), .put (.inr 5) (.box 25 (SF [((VN (2 + 1) ([1, 2, 4])) w.heap.size), ((MN 2 ([[], [2]])) w.heap.size)])), .val (iV 0)] [.inl 5] [.inl 7] follows S1 rfl (by kernel_rfl) ?_ ?_
  · repeat' refine And.intro ?_ ?_
    · trivial
    · exact owe_call0 rfl wA rfl  fresh_mn rfl (fun args w => by go_simp) (fun w => square_w w)
    · exact ch1 wA ((qO 0 4 rfl).imp (mn_mv sq_mdl)) (fresh_two fresh_gn (fresh_is _)) (fun w u h => by have q := of_ok w u 2 2 1 SQ h (by omega) (by omega) (by omega) (by omega) (by omega) rfl sq_nar sq_reg (by decide) sq_ok sq_d; rw [sq_D, sq_L] at q; exact q)
    · exact mO 1 5
    · exact e20 wA (oO 2 3)
    · exact e21 wA (oO 2 3)
    · exact owe_new rfl wA rfl rfl (fun ρ w => alloc_gso ρ _ w)
    · exact owe_put 5 rfl wA rfl (by kernel_rfl) rfl (oO 3 6) (stores_of strct_gso shp_g0 shp_sf2) rfl
    · exact mO 4 7
  intro B2 a2 W2 (S2 : Sta w 34 [(1, (.box 25 (SF [((VN (2 + 1) ([1, 2, 4])) w.heap.size), ((MN 2 ([[], [2]])) w.heap.size)])))] [(2, iV 0)] _ _ _)
  refine wp_stmt_seq [.val (iV 0), kT, kT, .val (Part a2 1 0), .val ((VN (2 + 1) ([1, 2, 4])) w.heap.size), .val ((ZN (1)) w.heap.size), .val ((ZN (2)) w.heap.size), .val ((ZN (4)) w.heap.size), .val ((LF 2 3 ([(ZN (1)), (ZN (2)), (ZN (4))])) w.heap.size), kT, kT, kT, .val (Part a2 1 1), .val ((MN 2 ([[], [2]])) w.heap.size), .val (iV (2 : Nat)), kT, kT, kT, .val (Part a2 1 1), .val ((MN 2 ([[], [2]])) w.heap.size), .val (AtE 1 ((VN 1 ([2])) w.heap.size)), .val ((VN 1 ([2])) w.heap.size), .val ((ZN (2)) w.heap.size), .val (Sng 28 2 ((ZN (2)) w.heap.size) w.heap.size), kT, kT, kT] [.inr 0] [.inl 26] follows S2 rfl (by kernel_rfl) ?_ ?_
  · repeat' refine And.intro ?_ ?_
    · trivial
    · exact mS 0 2
    · exact b_eql_errno_t wA (oO 0 8) (opnd_const _) (h := rfl)
    · exact mO 1 9
    · exact owe_part rfl (wI 2 10) rfl (k := 0) rfl (by kernel_rfl) rfl (fun ρ w b h => part_gso0 ρ _ _ w b 0 h)
    · exact owe_pload rfl (wI 2 10) rfl (oO 3 11) (k := 0) rfl (by kernel_rfl) rfl (fun ρ w b u h1 h2 h3 => ploadS rfl load1_vec ρ _ _ w b u h1 h2 h3)
    · exact cc1 (wI 2 10) (opnd_const _) (fresh_zn _) (fun w u hu => by obtain rfl : u = _ := hu; exact lawn_w w 1 (by omega) (by omega))
    · exact cc1 (wI 2 10) (opnd_const _) (fresh_zn _) (fun w u hu => by obtain rfl : u = _ := hu; exact lawn_w w 2 (by omega) (by omega))
    · exact cc1 (wI 2 10) (opnd_const _) (fresh_zn _) (fun w u hu => by obtain rfl : u = _ := hu; exact lawn_w w 4 (by omega) (by omega))
    · exact owe_lit3 rfl (wI 2 10) rfl bld3_int (by decide) (oO 5 13) (oO 6 14) (oO 7 15) zn_lit zn_lit zn_lit rfl
    · exact ch2 (wI 2 10) ((qO 4 12 rfl).imp vn_vs) ((qO 8 16 rfl).imp vn_vs) (fresh_is _) (fun w u v h h' => eqs_w w u v _ _ h h')
    · exact pT wA (oO 2 10) (oO 9 17)
    · exact mO 10 18
    · exact owe_part rfl (wI 11 19) rfl (k := 0) rfl (by kernel_rfl) rfl (fun ρ w b h => part_gso1 ρ _ _ w b 0 h)
    · exact owe_pload rfl (wI 11 19) rfl (oO 12 20) (k := 0) rfl (by kernel_rfl) rfl (fun ρ w b u h1 h2 h3 => ploadS rfl load1_mat ρ _ _ w b u h1 h2 h3)
    · exact owe_len rfl (wI 11 19) rfl (oO 13 21) lf_len Tryz.underlying23 rfl
    · exact b_eql_int_t (wI 11 19) (oO 14 22) (opnd_const _) (h := rfl)
    · exact pT wA (oO 11 19) (oO 15 23)
    · exact mO 16 24
    · exact owe_part rfl (wI 17 25) rfl (k := 0) rfl (by kernel_rfl) rfl (fun ρ w b h => part_gso1 ρ _ _ w b 0 h)
    · exact owe_pload rfl (wI 17 25) rfl (oO 18 26) (k := 0) rfl (by kernel_rfl) rfl (fun ρ w b u h1 h2 h3 => ploadS rfl load1_mat ρ _ _ w b u h1 h2 h3)
    · exact owe_aindex rfl (wI 17 25) rfl idx_rows ((oO 19 27).imp lf_ar) (opnd_const _) rfl rfl
    · exact owe_aload rfl (wI 17 25) rfl ldr_row1 (by decide) cel_vn (oO 20 28) rfl
    · exact cc1 (wI 17 25) (opnd_const _) (fresh_zn _) (fun w u hu => by obtain rfl : u = _ := hu; exact lawn_w w 2 (by omega) (by omega))
    · exact owe_b1 rfl (wI 17 25) rfl bld_int (oO 22 30) (cel_shp (by decide) shp_zn) rfl
    · exact owe_callh2 rfl (wI 17 25) rfl ((oO 21 29).imp vn_vs) ((oO 23 31).imp (fun v w h => vn_vs v w (sng_lf (by decide) v w h))) (fresh_is _) rfl (fun args w => by go_simp) (fun w u v h h' => eqs_w w u v _ _ h h')
    · exact pT wA (oO 17 25) (oO 24 32)
    · exact mO 25 33
  intro B3 a3 W3 (S3 : Sta w 34 [(1, (.box 25 (SF [((VN (2 + 1) ([1, 2, 4])) w.heap.size), ((MN 2 ([[], [2]])) w.heap.size)])))] [(0, bT)] _ _ _)
  refine wp_ret ?_
  exact end_one S3 rfl (res_tmp S3 0 0 rfl)

end Go.Proofs.YtkiholgfamfgeaaGreat
