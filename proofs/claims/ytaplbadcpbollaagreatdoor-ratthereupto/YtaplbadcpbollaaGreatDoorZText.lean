/-
  zint.Text and the document's.
-/
import Derived.Test.YtaplbadcpbollaaGreatDoorTxC
import Derived.Test.YtaplbadcpbollaaGreatDoorMConts
import Derived.Test.YtaplbadcpbollaaGreatDoorTxB
namespace Go.Proofs.YtaplbadcpbollaaGreatDoor
open Go Go.RowKit Nt
set_option linter.unusedSimpArgs false
set_option linter.unusedVariables false
set_option maxRecDepth 20000

theorem sign_ge {z : Int} (h : 0 ≤ z) : 0 ≤ z.sign := by
  rcases Int.lt_or_eq_of_le h with h | h
  · rw [Int.sign_eq_one_of_pos h]; decide
  · rw [← h]; decide

theorem run_cat (ρ : Operand → Value) (o : Oper) (x y : Operand) (w : World) (a b : List UInt8) (hl : a.length + b.length ≤ 9223372036854775807) (h1 : ρ x = str a) (h2 : ρ y = str b) : (execOp ρ { o with op := .binOp .add 9 x y 9 }).run Tryz.prog w = .ok (.value (str (a ++ b))) w := by
  have e : str (a ++ b) = .string ((⟨a.toArray⟩ : ByteArray) ++ ⟨b.toArray⟩) := by
    unfold str
    congr 1
    first | (apply ByteArray.ext; simp) | skip
  rw [e]
  unfold str at h1 h2
  unfold execOp
  go_simp
theorem g_rtext {x k : Nat} (hk : k ≤ 1048577) : ∀ w u, Nv x k u w → Calls Tryz.prog 47 #[u] w (Gives (IS (str (txN x))) w) := by
  rintro w u ⟨p, n, c, xs, rfl, hx, rfl, hn⟩
  refine (rtext_c w p n c xs hx (by omega)).mono ?_
  rintro e w' ⟨rfl, hb⟩
  exact ⟨_, rfl, hb, rfl⟩
theorem txZ_neg {z : Int} (h : z < 0) : txZ z = 45 :: txN z.natAbs := if_pos h
theorem txZ_pos {z : Int} (h : 0 ≤ z) : txZ z = txN z.natAbs := if_neg (by omega)

set_option maxHeartbeats 400000 in
theorem ztext_m (w : World) (s : Bool) (p : Option Addr) (n c : Nat) (xs : List Nat) (h : Sl w p n c xs) (hn : n ≤ 1048576) (hT : Tab w) (hz : (sg s (val xs)) < 0) :
    Calls Tryz.prog 17 #[.agg #[.bool s, .slice p n c]] w (Gives (IS (str (txZ (sg s (val xs))))) w) := by
  have hsg : (sg s (val xs)).sign < 0 := by rw [Int.sign_eq_neg_one_of_neg hz]; decide
  have hr : txZ (sg s (val xs)) = 45 :: txN (val xs) := by rw [txZ_neg hz, sg_abs]
  have hcl : [(45 : UInt8)].length + (txN (val xs)).length ≤ 9223372036854775807 := by have := txN_len (x := val xs) h.dl; simp only [List.length_singleton]; omega
  rw [hr]
  refine calls_sta (sl := [(0, (Zx s p n c xs))]) Tryz.func17 rfl Tryz.ntmps17 (by simp) (args_cons rfl (zx_has h) args_nil) ?_
  intro a0 S0
  replace S0 : Sta w 13 [] [(0, Zx s p n c xs), (1000001, TT)] (fun _ => False) a0 w := S0.moreT 1000001 (tt_has hT)
  refine wp_stmt_seq [.new (.box 24 (Zx s p n c xs)), .val (Is (.string (ByteArray.mk #[])))] [.inl 0] [.inl 1, .inr 1] follows S0 rfl (by kernel_rfl) ?_ ?_
  · refine ⟨⟨trivial, ?_⟩, ?_⟩
    · exact owe_box rfl wA rfl (oS 0 0) rfl (fun ρ w h => box_int shp_zx ρ _ _ w h)
    · exact mC
  intro B1 a1 W1 (S1 : Sta w 13 [(1, (.box 24 (Zx s p n c xs)))] [(2, Is (.string (ByteArray.mk #[]))), (1000001, TT)] _ _ _)
  refine wp_seq ?_
  refine wp_stmt_seq [.val (Zx s p n c xs), .val (iV ((sg s (val xs)).sign)), kT] [.inr 0] [.inl 2, .inr 0, .inr 1] follows S1 rfl (by kernel_rfl) ?_ ?_
  · refine ⟨⟨⟨trivial, ?_⟩, ?_⟩, ?_⟩
    · exact lod 0 wA (loads_of strct_int shp_zx)
    · exact ch1 wA ((qO 0 3 rfl).imp (zx_zv' rfl (Nat.le_refl _))) (fresh_is _) (fun w u h => h_zsign (by omega) w u h.now)
    · exact b_lss_int_t wA (oO 1 4) (opnd_const _)
  intro B2 a2 W2 (S2 : Sta w 13 [(1, (.box 24 (Zx s p n c xs)))] [(5, bT), (2, Is (.string (ByteArray.mk #[]))), (1000001, TT)] _ _ _)
  refine wp_cond_true (S2.bool 0 5 rfl) ?_
  refine wp_stmt_seq [.val (Part a2 1 1), .val (Nx p n c xs), .val (Is (str (txN (val xs)))), .val (Is (str (45 :: txN (val xs)))), .val (Is (str (45 :: txN (val xs))))] [.inr 0] [.inl 4, .inr 0, .inr 2] follows S2 rfl (by kernel_rfl) ?_ ?_
  · refine ⟨⟨⟨⟨⟨trivial, ?_⟩, ?_⟩, ?_⟩, ?_⟩, ?_⟩
    · exact owe_part rfl wA rfl (k := 0) rfl (by kernel_rfl) rfl (fun ρ w b h => part_int1 ρ _ _ w b 0 h)
    · exact owe_pload rfl wA rfl (oO 0 6) (k := 0) rfl (by kernel_rfl) rfl (fun ρ w b u h1 h2 h3 => pload_mag zx_mag ρ _ _ w b u h1 h2 h3)
    · exact owe_callh1 rfl wA rfl (opnd_tp ((oO 1 7).imp (nx_nv (Nat.le_refl _))) (oS 2 1000001)) (fresh_is _) rfl (fun args w => by go_simp) (g_text (by omega))
    · exact owe_bin rfl wA rfl (opnd_const _) (oO 2 8) rfl (fun ρ w h1 h2 => by exact run_cat ρ _ _ _ w [45] _ hcl h1 h2)
    · exact mO 3 9
  intro B3 a3 W3 (S3 : Sta w 13 [(1, (.box 24 (Zx s p n c xs)))] [(2, Is (str (45 :: txN (val xs)))), (5, bT), (1000001, TT)] _ _ _)
  refine wp_ret ?_
  refine thenR ?_
  exact end_one S3 rfl (res_tmp S3 0 2 rfl)

set_option maxHeartbeats 400000 in
theorem rztext_m (w : World) (s : Bool) (p : Option Addr) (n c : Nat) (xs : List Nat) (h : Sl w p n c xs) (hn : n ≤ 1048576) (hz : (sg s (val xs)) < 0) :
    Calls Tryz.prog 20 #[.agg #[.bool s, .slice p n c]] w (Gives (IS (str (txZ (sg s (val xs))))) w) := by
  have hsg : (sg s (val xs)).sign < 0 := by rw [Int.sign_eq_neg_one_of_neg hz]; decide
  have hr : txZ (sg s (val xs)) = 45 :: txN (val xs) := by rw [txZ_neg hz, sg_abs]
  have hcl : [(45 : UInt8)].length + (txN (val xs)).length ≤ 9223372036854775807 := by have := txN_len (x := val xs) h.dl; simp only [List.length_singleton]; omega
  rw [hr]
  refine calls_sta (sl := [(0, (Zx s p n c xs))]) Tryz.func20 rfl Tryz.ntmps20 (by simp) (args_cons rfl (zx_has h) args_nil) ?_
  intro a0 S0
  refine wp_stmt_seq [.new (.box 24 (Zx s p n c xs)), .val (Is (.string (ByteArray.mk #[])))] [.inl 0] [.inl 1] follows S0 rfl (by kernel_rfl) ?_ ?_
  · refine ⟨⟨trivial, ?_⟩, ?_⟩
    · exact owe_box rfl wA rfl (oS 0 0) rfl (fun ρ w h => box_int shp_zx ρ _ _ w h)
    · exact mC
  intro B1 a1 W1 (S1 : Sta w 13 [(1, (.box 24 (Zx s p n c xs)))] [(2, Is (.string (ByteArray.mk #[])))] _ _ _)
  refine wp_stmt_seq [.val (Part a1 1 1), .val (Nx p n c xs), .val (Is (str (txN (val xs)))), .val (Is (str (txN (val xs))))] [.inr 0] [.inl 3, .inr 0] follows S1 rfl (by kernel_rfl) ?_ ?_
  · refine ⟨⟨⟨⟨trivial, ?_⟩, ?_⟩, ?_⟩, ?_⟩
    · exact owe_part rfl wA rfl (k := 0) rfl (by kernel_rfl) rfl (fun ρ w b h => part_int1 ρ _ _ w b 0 h)
    · exact owe_pload rfl wA rfl (oO 0 4) (k := 0) rfl (by kernel_rfl) rfl (fun ρ w b u h1 h2 h3 => pload_mag zx_mag ρ _ _ w b u h1 h2 h3)
    · exact ch1 wA ((qO 1 5 rfl).imp (nx_nv (Nat.le_refl _))) (fresh_is _) (fun w u h => g_rtext (by omega) w u h.now)
    · exact mO 2 6
  intro B2 a2 W2 (S2 : Sta w 13 [(1, (.box 24 (Zx s p n c xs)))] [(3, Is (str (txN (val xs)))), (2, Is (.string (ByteArray.mk #[])))] _ _ _)
  refine wp_seq ?_
  refine wp_stmt_seq [.val (Zx s p n c xs), .val (iV ((sg s (val xs)).sign)), kT] [.inr 0] [.inl 2, .inr 0, .inr 1] follows S2 rfl (by kernel_rfl) ?_ ?_
  · refine ⟨⟨⟨trivial, ?_⟩, ?_⟩, ?_⟩
    · exact lod 0 wA (loads_of strct_int shp_zx)
    · exact ch1 wA ((qO 0 7 rfl).imp (zx_zv' rfl (Nat.le_refl _))) (fresh_is _) (fun w u h => g_rsign (by omega) w u h.now)
    · exact b_lss_int_t wA (oO 1 8) (opnd_const _)
  intro B3 a3 W3 (S3 : Sta w 13 [(1, (.box 24 (Zx s p n c xs)))] [(9, bT), (3, Is (str (txN (val xs)))), (2, Is (.string (ByteArray.mk #[])))] _ _ _)
  refine wp_cond_true (S3.bool 0 9 rfl) ?_
  refine wp_stmt_seq [.val (Is (str (txN (val xs)))), .val (Is (str (45 :: txN (val xs)))), .val (Is (str (45 :: txN (val xs))))] [.inr 0] [.inl 2, .inr 0, .inr 1] follows S3 rfl (by kernel_rfl) ?_ ?_
  · refine ⟨⟨⟨trivial, ?_⟩, ?_⟩, ?_⟩
    · exact mS 1 3
    · exact owe_bin rfl wA rfl (opnd_const _) (oO 0 10) rfl (fun ρ w h1 h2 => by exact run_cat ρ _ _ _ w [45] _ hcl h1 h2)
    · exact mO 1 11
  intro B4 a4 W4 (S4 : Sta w 13 [(1, (.box 24 (Zx s p n c xs)))] [(2, Is (str (45 :: txN (val xs)))), (9, bT), (3, Is (str (txN (val xs))))] _ _ _)
  refine wp_ret ?_
  refine thenR ?_
  exact end_one S4 rfl (res_tmp S4 0 2 rfl)

set_option maxHeartbeats 400000 in
theorem ztext_p (w : World) (s : Bool) (p : Option Addr) (n c : Nat) (xs : List Nat) (h : Sl w p n c xs) (hn : n ≤ 1048576) (hT : Tab w) (hz : 0 ≤ (sg s (val xs))) :
    Calls Tryz.prog 17 #[.agg #[.bool s, .slice p n c]] w (Gives (IS (str (txZ (sg s (val xs))))) w) := by
  have hsg : 0 ≤ (sg s (val xs)).sign := by exact sign_ge hz
  have hr : txZ (sg s (val xs)) = txN (val xs) := by rw [txZ_pos hz, sg_abs]
  have hcl : [(45 : UInt8)].length + (txN (val xs)).length ≤ 9223372036854775807 := by have := txN_len (x := val xs) h.dl; simp only [List.length_singleton]; omega
  rw [hr]
  refine calls_sta (sl := [(0, (Zx s p n c xs))]) Tryz.func17 rfl Tryz.ntmps17 (by simp) (args_cons rfl (zx_has h) args_nil) ?_
  intro a0 S0
  replace S0 : Sta w 13 [] [(0, Zx s p n c xs), (1000001, TT)] (fun _ => False) a0 w := S0.moreT 1000001 (tt_has hT)
  refine wp_stmt_seq [.new (.box 24 (Zx s p n c xs)), .val (Is (.string (ByteArray.mk #[])))] [.inl 0] [.inl 1, .inr 1] follows S0 rfl (by kernel_rfl) ?_ ?_
  · refine ⟨⟨trivial, ?_⟩, ?_⟩
    · exact owe_box rfl wA rfl (oS 0 0) rfl (fun ρ w h => box_int shp_zx ρ _ _ w h)
    · exact mC
  intro B1 a1 W1 (S1 : Sta w 13 [(1, (.box 24 (Zx s p n c xs)))] [(2, Is (.string (ByteArray.mk #[]))), (1000001, TT)] _ _ _)
  refine wp_seq ?_
  refine wp_stmt_seq [.val (Zx s p n c xs), .val (iV ((sg s (val xs)).sign)), kF] [.inr 0] [.inl 2, .inr 0, .inr 1] follows S1 rfl (by kernel_rfl) ?_ ?_
  · refine ⟨⟨⟨trivial, ?_⟩, ?_⟩, ?_⟩
    · exact lod 0 wA (loads_of strct_int shp_zx)
    · exact ch1 wA ((qO 0 3 rfl).imp (zx_zv' rfl (Nat.le_refl _))) (fresh_is _) (fun w u h => h_zsign (by omega) w u h.now)
    · exact b_lss_int_f wA (oO 1 4) (opnd_const _)
  intro B2 a2 W2 (S2 : Sta w 13 [(1, (.box 24 (Zx s p n c xs)))] [(5, bF), (2, Is (.string (ByteArray.mk #[]))), (1000001, TT)] _ _ _)
  refine wp_cond_false (S2.bool 0 5 rfl) ?_
  refine wp_skip ?_
  refine thenN ?_
  refine wp_stmt_seq [.val (Part a2 1 1), .val (Nx p n c xs), .val (Is (str (txN (val xs)))), .val (Is (str (txN (val xs))))] [.inr 0] [.inl 3, .inr 0, .inr 2] follows S2 rfl (by kernel_rfl) ?_ ?_
  · refine ⟨⟨⟨⟨trivial, ?_⟩, ?_⟩, ?_⟩, ?_⟩
    · exact owe_part rfl wA rfl (k := 0) rfl (by kernel_rfl) rfl (fun ρ w b h => part_int1 ρ _ _ w b 0 h)
    · exact owe_pload rfl wA rfl (oO 0 10) (k := 0) rfl (by kernel_rfl) rfl (fun ρ w b u h1 h2 h3 => pload_mag zx_mag ρ _ _ w b u h1 h2 h3)
    · exact owe_callh1 rfl wA rfl (opnd_tp ((oO 1 11).imp (nx_nv (Nat.le_refl _))) (oS 2 1000001)) (fresh_is _) rfl (fun args w => by go_simp) (g_text (by omega))
    · exact mO 2 12
  intro B3 a3 W3 (S3 : Sta w 13 [(1, (.box 24 (Zx s p n c xs)))] [(2, Is (str (txN (val xs)))), (5, bF), (1000001, TT)] _ _ _)
  refine wp_ret ?_
  exact end_one S3 rfl (res_tmp S3 0 2 rfl)

set_option maxHeartbeats 400000 in
theorem rztext_p (w : World) (s : Bool) (p : Option Addr) (n c : Nat) (xs : List Nat) (h : Sl w p n c xs) (hn : n ≤ 1048576) (hz : 0 ≤ (sg s (val xs))) :
    Calls Tryz.prog 20 #[.agg #[.bool s, .slice p n c]] w (Gives (IS (str (txZ (sg s (val xs))))) w) := by
  have hsg : 0 ≤ (sg s (val xs)).sign := by exact sign_ge hz
  have hr : txZ (sg s (val xs)) = txN (val xs) := by rw [txZ_pos hz, sg_abs]
  have hcl : [(45 : UInt8)].length + (txN (val xs)).length ≤ 9223372036854775807 := by have := txN_len (x := val xs) h.dl; simp only [List.length_singleton]; omega
  rw [hr]
  refine calls_sta (sl := [(0, (Zx s p n c xs))]) Tryz.func20 rfl Tryz.ntmps20 (by simp) (args_cons rfl (zx_has h) args_nil) ?_
  intro a0 S0
  refine wp_stmt_seq [.new (.box 24 (Zx s p n c xs)), .val (Is (.string (ByteArray.mk #[])))] [.inl 0] [.inl 1] follows S0 rfl (by kernel_rfl) ?_ ?_
  · refine ⟨⟨trivial, ?_⟩, ?_⟩
    · exact owe_box rfl wA rfl (oS 0 0) rfl (fun ρ w h => box_int shp_zx ρ _ _ w h)
    · exact mC
  intro B1 a1 W1 (S1 : Sta w 13 [(1, (.box 24 (Zx s p n c xs)))] [(2, Is (.string (ByteArray.mk #[])))] _ _ _)
  refine wp_stmt_seq [.val (Part a1 1 1), .val (Nx p n c xs), .val (Is (str (txN (val xs)))), .val (Is (str (txN (val xs))))] [.inr 0] [.inl 3, .inr 0] follows S1 rfl (by kernel_rfl) ?_ ?_
  · refine ⟨⟨⟨⟨trivial, ?_⟩, ?_⟩, ?_⟩, ?_⟩
    · exact owe_part rfl wA rfl (k := 0) rfl (by kernel_rfl) rfl (fun ρ w b h => part_int1 ρ _ _ w b 0 h)
    · exact owe_pload rfl wA rfl (oO 0 4) (k := 0) rfl (by kernel_rfl) rfl (fun ρ w b u h1 h2 h3 => pload_mag zx_mag ρ _ _ w b u h1 h2 h3)
    · exact ch1 wA ((qO 1 5 rfl).imp (nx_nv (Nat.le_refl _))) (fresh_is _) (fun w u h => g_rtext (by omega) w u h.now)
    · exact mO 2 6
  intro B2 a2 W2 (S2 : Sta w 13 [(1, (.box 24 (Zx s p n c xs)))] [(3, Is (str (txN (val xs)))), (2, Is (.string (ByteArray.mk #[])))] _ _ _)
  refine wp_seq ?_
  refine wp_stmt_seq [.val (Zx s p n c xs), .val (iV ((sg s (val xs)).sign)), kF] [.inr 0] [.inl 2, .inr 0, .inr 1] follows S2 rfl (by kernel_rfl) ?_ ?_
  · refine ⟨⟨⟨trivial, ?_⟩, ?_⟩, ?_⟩
    · exact lod 0 wA (loads_of strct_int shp_zx)
    · exact ch1 wA ((qO 0 7 rfl).imp (zx_zv' rfl (Nat.le_refl _))) (fresh_is _) (fun w u h => g_rsign (by omega) w u h.now)
    · exact b_lss_int_f wA (oO 1 8) (opnd_const _)
  intro B3 a3 W3 (S3 : Sta w 13 [(1, (.box 24 (Zx s p n c xs)))] [(9, bF), (3, Is (str (txN (val xs)))), (2, Is (.string (ByteArray.mk #[])))] _ _ _)
  refine wp_cond_false (S3.bool 0 9 rfl) ?_
  refine wp_skip ?_
  refine thenN ?_
  refine wp_stmt_seq [.val (Is (str (txN (val xs)))), .val (Is (str (txN (val xs))))] [.inr 0] [.inl 1, .inr 0, .inr 1] follows S3 rfl (by kernel_rfl) ?_ ?_
  · refine ⟨⟨trivial, ?_⟩, ?_⟩
    · exact mS 1 3
    · exact mO 0 12
  intro B4 a4 W4 (S4 : Sta w 13 [(1, (.box 24 (Zx s p n c xs)))] [(2, Is (str (txN (val xs)))), (9, bF), (3, Is (str (txN (val xs))))] _ _ _)
  refine wp_ret ?_
  exact end_one S4 rfl (res_tmp S4 0 2 rfl)

theorem h_ztext {A : Int} {k : Nat} (hk : k ≤ 1048576) : ∀ w u, Tab w → Zv A k u w → Calls Tryz.prog 17 #[u] w (Gives (IS (str (txZ A))) w) := by
  rintro w u hT ⟨s, p, n, c, xs, rfl, h, rfl, hn⟩
  by_cases hz : sg s (val xs) < 0
  · exact ztext_m w s p n c xs h (by omega) hT hz
  · exact ztext_p w s p n c xs h (by omega) hT (by omega)
theorem h_rztext {A : Int} {k : Nat} (hk : k ≤ 1048576) : ∀ w u, Zv A k u w → Calls Tryz.prog 20 #[u] w (Gives (IS (str (txZ A))) w) := by
  rintro w u ⟨s, p, n, c, xs, rfl, h, rfl, hn⟩
  by_cases hz : sg s (val xs) < 0
  · exact rztext_m w s p n c xs h (by omega) hz
  · exact rztext_p w s p n c xs h (by omega) (by omega)
end Go.Proofs.YtaplbadcpbollaaGreatDoor
