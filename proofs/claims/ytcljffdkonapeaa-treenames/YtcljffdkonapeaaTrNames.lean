/-
  TreeNames.
-/
import Derived.Test.YtcljffdkonapeaaTrValid
namespace Go.Proofs.Ytcljffdkonapeaa
open Go Go.RowKit Nt
set_option linter.unusedSimpArgs false
set_option linter.unusedVariables false


abbrev TnD : List Int := [1, 1, 1]
abbrev TnL : List (List Int) := [[], [0]]
theorem tn_dl : Dl TnD 1 := fun i z h => by
  have hz : z = 1 := by
    match i, h with
    | 0, h => simp at h; omega
    | 1, h => simp at h; omega
    | 2, h => simp at h; omega
    | i + 3, h => simp at h
  rw [hz]; exact one_dl
theorem tn_mdl : Mdl TnL 1 := fun i r h => by
  match i, h with
  | 0, h => simp at h; subst h; exact fun j z hz => by simp at hz
  | 1, h =>
    simp at h; subst h
    exact fun j z hz => by
      match j, hz with
      | 0, hz => simp at hz; subst hz; exact Nat.le_trans (by rw [show (0 : Int).natAbs = 0 from rfl, digs_zero]; exact Nat.zero_le _) (Nat.le_refl 1)
      | j + 1, hz => simp at hz
  | i + 2, h => simp at h
theorem tn_good : TGood TnD TnL [] 1 1 := ⟨⟨by decide, by decide, by decide, fun i hi => by
  match i, hi with
  | 0, _ => rfl
  | 1, _ => rfl, fun i hi => by
  match i, hi with
  | 0, _ => decide
  | 1, _ => decide⟩, by decide, Or.inl rfl, fun i hi => by simp at hi, by decide, by decide⟩
theorem tn_bad : TBad ([] : List Int) ([] : List (List Int)) [] 0 0 := .g (.none rfl)
/-- The plain square's tree, in new memory. -/
abbrev TnT : Nat → Pr := fun lo => TR (VN 3 TnD lo) (MN 2 TnL lo) (Is (.slice none 0 0)) (PR (ZN 1 lo) (ZN 1 lo))
theorem tr_fresh {pd pl pr : Nat → Pr} {pt : Pr} (f1 : Fresh pd) (f2 : Fresh pl) (f3 : Fresh (fun _ => pt)) (f4 : Fresh pr) : Fresh (fun lo => TR (pd lo) (pl lo) pt (pr lo)) :=
  ⟨fun lo lo' v w hl h => tr_imp (fun v w h => f1.mono _ _ v w hl h) (fun v w h => f2.mono _ _ v w hl h) (fun v w h => h) (fun v w h => f4.mono _ _ v w hl h) v w h, fun lo v w w' B hB ⟨a, b, t, p, q, p', q', e, h, h1, h2, h3, h4⟩ ev => ⟨a, b, t, p, q, p', q', e, h, f1.ev _ _ _ _ B hB h1 ev, f2.ev _ _ _ _ B hB h2 ev, f3.ev lo _ _ _ B hB h3 ev, f4.ev _ _ _ _ B hB h4 ev⟩⟩
theorem fresh_tn : Fresh TnT := tr_fresh fresh_vn fresh_mn (fresh_is _) (fresh_prf (fresh_zn _) (fresh_zn _))
theorem tn_arg {lo : Nat} : ∀ v w, TnT lo v w → TR (Vv 3 TnD 1) (Mv 2 TnL 1) (QV 0 [] 1) (PR (Zv 1 1) (Zv 1 1)) v w := tr_imp (vn_vv tn_dl) (mn_mv tn_mdl) nil_qv (pr_imp (zn_zv one_dl) (zn_zv one_dl))
theorem t0_arg : ∀ v w, TR (Is (.slice none 0 0)) (Is (.slice none 0 0)) (Is (.slice none 0 0)) (PR zI zI) v w → TR (Vv 0 [] 0) (Mv 0 [] 0) (QV 0 [] 0) (PR (Zv 0 0) (Zv 0 0)) v w :=
  tr_imp nil_vv (fun v w h => ⟨none, 0, h, rfl, ⟨Nat.le_refl _, by unfold maxLen; omega, fun _ => rfl⟩, fun i φ hφ => by simp at hφ⟩) nil_qv (pr_imp zero_zv zero_zv)

set_option maxHeartbeats 400000 in
theorem trn_w (w : World) (z : Int) (h1 : -9223372036854775808 ≤ z) (h2 : z < 9223372036854775808) :
    Calls Try.prog 9 #[.int .i64 z] w (Gives (ZN (z)) w) := by
  refine calls_sta (sl := [(0, (iV z))]) Try.func9 rfl Try.ntmps9 (by simp) (args_cons rfl (is_has _) args_nil) ?_
  intro a0 S0
  refine wp_stmt_seq [.new (.box 31 zI)] [.inl 0] [.inr 0] follows S0 rfl (by kernel_rfl) ?_ ?_
  · refine ⟨trivial, ?_⟩
    · exact owe_new rfl wA rfl rfl (fun ρ w => alloc_int ρ _ w)
  intro B1 a1 W1 (S1 : Sta w 5 [(2, (.box 31 zI))] [(0, iV z)] _ _ _)
  refine wp_stmt_seq [.val (iV z), .val ((ZN (z)) w.heap.size), .put (.inl 2) (.box 31 ((ZN (z)) w.heap.size))] [.inr 0] [] follows S1 rfl (by kernel_rfl) ?_ ?_
  · refine ⟨⟨⟨trivial, ?_⟩, ?_⟩, ?_⟩
    · exact mS 0 0
    · exact cc1 wA (qO 0 3 rfl) (fresh_zn _) (g_rof z h1 h2)
    · exact owe_set rfl wA rfl (k := 0) rfl (by kernel_rfl) (oO 1 4) (stores_of strct_int shp_z0 shp_zn) rfl
  intro B2 a2 W2 (S2 : Sta w 5 [(2, (.box 31 ((ZN (z)) w.heap.size)))] [] _ _ _)
  refine wp_ret ?_
  exact end_one S2 rfl (res_cell S2 0 2 rfl strct_int shp_zn)

set_option maxHeartbeats 4000000 in
theorem small_w (w : World) :
    Calls Try.prog 5 #[] w (Gives TnT w) := by
  refine calls_sta (sl := []) Try.func5 rfl Try.ntmps5 (by simp) args_nil ?_
  intro a0 S0
  refine wp_stmt_seq [.new (.box 35 (Is (.agg #[.slice none 0 0, .slice none 0 0, .slice none 0 0, .bool false, .slice none 0 0, .bool false, .slice none 0 0])))] [.inl 0] [] follows S0 rfl (by kernel_rfl) ?_ ?_
  · refine ⟨trivial, ?_⟩
    · exact owe_new rfl wA rfl rfl (fun ρ w => alloc_tree ρ _ w)
  intro B1 a1 W1 (S1 : Sta w 14 [(0, (.box 35 (Is (.agg #[.slice none 0 0, .slice none 0 0, .slice none 0 0, .bool false, .slice none 0 0, .bool false, .slice none 0 0]))))] [] _ _ _)
  refine wp_stmt_seq [.val ((ZN (1)) w.heap.size), .val ((ZN (1)) w.heap.size), .val ((ZN (1)) w.heap.size), .val ((LF 2 3 ([(ZN (1)), (ZN (1)), (ZN (1))])) w.heap.size), .val ((VN 0 (([] : List Int))) w.heap.size), .val ((ZN (0)) w.heap.size), .val (Sng 31 2 ((ZN (0)) w.heap.size) w.heap.size), .val ((LF 1 2 ([(VN 0 (([] : List Int))), (LF 2 1 ([(ZN (0))]))])) w.heap.size), .val (SF [((LF 2 3 ([(ZN (1)), (ZN (1)), (ZN (1))])) w.heap.size), ((LF 1 2 ([(VN 0 (([] : List Int))), (LF 2 1 ([(ZN (0))]))])) w.heap.size)]), .val ((ZN (1)) w.heap.size), .val ((ZN (1)) w.heap.size), .val (PR ((ZN (1)) w.heap.size) ((ZN (1)) w.heap.size)), .val (TR ((LF 2 3 ([(ZN (1)), (ZN (1)), (ZN (1))])) w.heap.size) ((LF 1 2 ([(VN 0 (([] : List Int))), (LF 2 1 ([(ZN (0))]))])) w.heap.size) (Is (.slice none 0 0)) (PR ((ZN (1)) w.heap.size) ((ZN (1)) w.heap.size))), .put (.inl 0) (.box 35 (TR ((LF 2 3 ([(ZN (1)), (ZN (1)), (ZN (1))])) w.heap.size) ((LF 1 2 ([(VN 0 (([] : List Int))), (LF 2 1 ([(ZN (0))]))])) w.heap.size) (Is (.slice none 0 0)) (PR ((ZN (1)) w.heap.size) ((ZN (1)) w.heap.size))))] [.inr 0] [] follows S1 rfl (by kernel_rfl) ?_ ?_
  · repeat' refine And.intro ?_ ?_
    · trivial
    · exact cc1 wA (opnd_const _) (fresh_zn _) (fun w u h => by obtain rfl : u = _ := h; exact trn_w w 1 (by omega) (by omega))
    · exact cc1 wA (opnd_const _) (fresh_zn _) (fun w u h => by obtain rfl : u = _ := h; exact trn_w w 1 (by omega) (by omega))
    · exact cc1 wA (opnd_const _) (fresh_zn _) (fun w u h => by obtain rfl : u = _ := h; exact trn_w w 1 (by omega) (by omega))
    · exact owe_lit3 rfl wA rfl bld3_int (by decide) (oO 0 1) (oO 1 2) (oO 2 3) zn_lit zn_lit zn_lit rfl
    · exact owe_lit0 rfl wA rfl bld0_int (by decide) rfl
    · exact cc1 wA (opnd_const _) (fresh_zn _) (fun w u h => by obtain rfl : u = _ := h; exact trn_w w 0 (by omega) (by omega))
    · exact owe_b1 rfl wA rfl bld_int (oO 5 6) (cel_shp (by decide) shp_zn) rfl
    · exact owe_lit2 rfl wA rfl bld2_row (by decide) (oO 4 5) ((oO 6 7).imp (sng_lf (by decide))) vn_lit vn_lit rfl
    · exact owe_build_gv rfl wA rfl (oO 3 4) (oO 7 8) (fun v w h => by obtain ⟨p, c, e⟩ := lf_len v w h; exact ⟨_, _, _, e⟩) (fun v w h => by obtain ⟨p, c, e⟩ := lf_len v w h; exact ⟨_, _, _, e⟩) rfl
    · exact cc1 wA (opnd_const _) (fresh_zn _) (fun w u h => by obtain rfl : u = _ := h; exact trn_w w 1 (by omega) (by omega))
    · exact cc1 wA (opnd_const _) (fresh_zn _) (fun w u h => by obtain rfl : u = _ := h; exact trn_w w 1 (by omega) (by omega))
    · exact owe_build2 rfl wA rfl (oO 9 10) (oO 10 11) shp_zn shp_zn rfl
    · exact owe_build_tr rfl wA rfl (oO 8 9) (oO 11 12) (shp_pr shp_zn shp_zn) rfl
    · exact owe_set rfl wA rfl (k := 0) rfl (by kernel_rfl) (oO 12 13) (stores_of strct_tree shp_t0 shp_tr) rfl
  intro B2 a2 W2 (S2 : Sta w 14 [(0, (.box 35 (TR ((LF 2 3 ([(ZN (1)), (ZN (1)), (ZN (1))])) w.heap.size) ((LF 1 2 ([(VN 0 (([] : List Int))), (LF 2 1 ([(ZN (0))]))])) w.heap.size) (Is (.slice none 0 0)) (PR ((ZN (1)) w.heap.size) ((ZN (1)) w.heap.size)))))] [] _ _ _)
  refine wp_ret ?_
  exact end_one S2 rfl (res_cell S2 0 0 rfl strct_tree shp_tr)

set_option maxHeartbeats 400000 in
theorem treenames_w (w : World) :
    Calls Try.prog 3 #[] w (Gives (IS (.bool true)) w) := by
  refine calls_sta (sl := []) Try.func3 rfl Try.ntmps3 (by simp) args_nil ?_
  intro a0 S0
  refine wp_stmt_seq [kF] [] [] follows S0 rfl (by kernel_rfl) ?_ ?_
  · refine ⟨trivial, ?_⟩
    · exact mC
  intro B1 a1 W1 (S1 : Sta w 13 [] [] _ _ _)
  refine wp_stmt_seq [.val (TR (Is (.slice none 0 0)) (Is (.slice none 0 0)) (Is (.slice none 0 0)) (PR zI zI)), .val (iV 110), kT, kT, .val (TnT w.heap.size), .val (iV 0), kT, kT, kT, kT, kT, kT, kT] [] [.inl 12] follows S1 rfl (by kernel_rfl) ?_ ?_
  · repeat' refine And.intro ?_ ?_
    · trivial
    · exact owe_build_t0 rfl wA rfl rfl
    · exact ch1 wA ((qO 0 1 rfl).imp t0_arg) (fresh_is _) (fun w u h => tval_b w u 0 0 0 0 [] [] [] 0 0 h (by omega) (by omega) (by omega) (by omega) rfl rfl rfl tn_bad)
    · exact b_eql_errno_t wA (oO 1 2) (opnd_const _) (h := rfl)
    · exact mO 2 3
    · exact owe_call0 rfl (wI 3 4) rfl  fresh_tn rfl (fun args w => by go_simp) (fun w => small_w w)
    · exact ch1 (wI 3 4) ((qO 4 5 rfl).imp tn_arg) (fresh_is _) (fun w u h => tval_g w u 3 2 0 1 TnD TnL [] 1 1 h (by omega) (by omega) (by omega) (by omega) rfl rfl rfl tn_good)
    · exact b_eql_errno_t (wI 3 4) (oO 5 6) (opnd_const _) (h := rfl)
    · exact pT wA (oO 3 4) (oO 6 7)
    · exact mO 7 8
    · exact pT wA (oO 8 9) (opnd_const _)
    · exact mO 9 10
    · exact pT wA (oO 10 11) (opnd_const _)
    · exact mO 11 12
  intro B2 a2 W2 (S2 : Sta w 13 [] [(0, bT)] _ _ _)
  refine wp_ret ?_
  exact end_one S2 rfl (res_tmp S2 0 0 rfl)

end Go.Proofs.Ytcljffdkonapeaa
