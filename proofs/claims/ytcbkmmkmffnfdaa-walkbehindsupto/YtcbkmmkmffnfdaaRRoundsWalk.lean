/-
 RatRounds' walk: it returns true and writes nothing that was there.
-/
import Derived.Test.YtcbkmmkmffnfdaaRrA
import Derived.Test.YtcbkmmkmffnfdaaRNearMath
namespace Go.Proofs.Ytcbkmmkmffnfdaa
open Go Go.RowKit Nt
set_option linter.unusedSimpArgs false
set_option linter.unusedVariables false

abbrev qcsv10 (w : World) (A : Int) (D : Nat) : Rk := .box 24 ((ZN (fl A ((D : Int)))) w.heap.size)
set_option maxHeartbeats 400000 in
theorem rrfloor_w (w : World) (A : Int) (D k1 k2 : Nat) (u : Value) (h : Rv A (D : Int) k1 k2 u w) (hk1 : k1 ≤ 8388608) (hk2 : k2 ≤ 8388608) (hB : (D : Int) ≠ 0) :
  Calls Try.prog 14 #[u] w (Gives (ZN (fl A (D : Int))) w) := by
 refine calls_sta (sl := [(0, (PR (Zv A k1) (Zv ((D : Int)) k2)))]) Try.func14 rfl Try.ntmps14 (by simp) (args_cons rfl (rv_has h) args_nil) ?_
 intro a0 S0
 refine wq [.new (.box 26 (PR (Zv A k1) (Zv ((D : Int)) k2))), .new (.box 24 zI)] [.inl 0, .inl 1] [] S0 ?_ ?_
 ·apply jj2
  ·exact owe_box rfl wA rfl (oS 0 0) rfl (fun ρ w h => box_rat (shp_pr shp_zv shp_zv) ρ _ _ w h)
  ·exact owe_new rfl wA rfl rfl (fun ρ w => alloc_int ρ _ w)
 intro _ a1 _ (S1 : Sta w 14 [(1, (.box 26 (PR (Zv A k1) (Zv ((D : Int)) k2)))), (2, (.box 24 zI))] [] _ _ _)
 refine wq [.val (Part a1 1 0), .val (Zv A k1), .val (Part a1 1 2), .val (Zv ((D : Int)) k2), .val ((TWO (ZN (fl A ((D : Int)))) (ZN (rm A ((D : Int))))) w.heap.size), .val ((TWO (ZN (fl A ((D : Int)))) (ZN (rm A ((D : Int))))) w.heap.size), .val ((ZN (fl A ((D : Int)))) w.heap.size), .val ((ZN (rm A ((D : Int)))) w.heap.size), .new (.box 24 zI), .new (.box 24 zI), .put (.inr 8) (qcsv10 w A D), .put (.inr 9) (.box 24 ((ZN (rm A ((D : Int)))) w.heap.size))] [.inr 0, .inr 1, .inl 8, .inl 9] [] S1 ?_ ?_
 ·repeat' refine And.intro ?_ ?_
  ·trivial
  ·exact owe_part rfl wA rfl (k := 0) rfl (by kernel_rfl) rfl (fun ρ w b h => part_rat0 ρ _ _ w b 0 h)
  ·exact owe_pload rfl wA rfl (oO 0 6) (k := 0) rfl (by kernel_rfl) rfl (fun ρ w b u h1 h2 h3 => pload_num ρ _ _ w b u h1 h2 h3)
  ·exact owe_part rfl wA rfl (k := 0) rfl (by kernel_rfl) rfl (fun ρ w b h => part_rat1 ρ _ _ w b 0 h)
  ·exact owe_pload rfl wA rfl (oO 2 8) (k := 0) rfl (by kernel_rfl) rfl (fun ρ w b u h1 h2 h3 => pload_den ρ _ _ w b u h1 h2 h3)
  ·exact cc2 wA (qO 1 7 rfl) (qO 3 9 rfl) (fresh_two (fresh_zn _) (fresh_zn _)) (fun w u v h1 h2 => g_rfloor hB (by omega) w u v ((fun _ _ h => h) _ _ h1) ((fun _ _ h => h) _ _ h2))
  ·exact mO 4 10
  ·exact e20 wA (oO 5 5)
  ·exact e21 wA (oO 5 5)
  ·exact owe_new rfl wA rfl rfl (fun ρ w => alloc_int ρ _ w)
  ·exact owe_new rfl wA rfl rfl (fun ρ w => alloc_int ρ _ w)
  ·exact owe_put 8 rfl wA rfl (by kernel_rfl) rfl (oO 6 11) (stores_of strct_int shp_z0 shp_zn) rfl
  ·exact owe_put 9 rfl wA rfl (by kernel_rfl) rfl (oO 7 12) (stores_of strct_int shp_z0 shp_zn) rfl
 intro _ a2 _ (S2 : Sta w 14 [(1, (.box 26 (PR (Zv A k1) (Zv ((D : Int)) k2)))), (2, (.box 24 zI)), (3, (qcsv10 w A D)), (4, (.box 24 ((ZN (rm A ((D : Int)))) w.heap.size)))] [] _ _ _)
 refine wq [.val ((ZN (fl A ((D : Int)))) w.heap.size), .put (.inl 2) (qcsv10 w A D)] [.inr 0, .inr 1, .inr 2, .inr 3] [] S2 ?_ ?_
 ·apply jj2
  ·exact lod 2 wA (loads_of strct_int shp_zn)
  ·exact owe_set rfl wA rfl (k := 1) rfl (by kernel_rfl) (oO 0 13) (stores_of strct_int shp_z0 shp_zn) rfl
 intro _ a3 _ (S3 : Sta w 14 [(1, (.box 26 (PR (Zv A k1) (Zv ((D : Int)) k2)))), (2, (qcsv10 w A D)), (3, (qcsv10 w A D)), (4, (.box 24 ((ZN (rm A ((D : Int)))) w.heap.size)))] [] _ _ _)
 refine wp_ret ?_
 exact end_one S3 rfl (res_cell S3 1 2 rfl strct_int shp_zn)

theorem g_rrfloor {A : Int} {D k1 k2 : Nat} (hD : D ≠ 0) (hk1 : k1 ≤ 8388608) (hk2 : k2 ≤ 8388608) : ∀ w u, Rv A (D : Int) k1 k2 u w → Calls Try.prog 14 #[u] w (Gives (ZN (fl A (D : Int))) w) := fun w u h => rrfloor_w w A D k1 k2 u h hk1 hk2 (by omega)

end Go.Proofs.Ytcbkmmkmffnfdaa
