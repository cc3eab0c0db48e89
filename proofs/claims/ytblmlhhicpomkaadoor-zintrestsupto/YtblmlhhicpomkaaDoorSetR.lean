import Derived.Test.YtblmlhhicpomkaaDoorSetN
import Derived.Test.YtblmlhhicpomkaaDoorBOps
/-
  zint.Gcd, zint.Bezout.
-/
namespace Go.Proofs.YtblmlhhicpomkaaDoor
open Go Go.RowKit Nt
set_option linter.unusedSimpArgs false
set_option linter.unusedVariables false

set_option maxHeartbeats 400000 in
theorem zbez_w (w : World) (s t : Bool) (p q : Option Addr) (n c m d : Nat) (xs ys : List Nat) (h : Sl w p n c xs) (h' : Sl w q m d ys) (A B : Int) (eA : sg s (val xs) = A) (eB : sg t (val ys) = B) (hB : B ≠ 0) (D R : Nat) (eD : B.natAbs = D) (eR : rm A (D : Int) = (R : Int)) (hs : n ≤ 67108864) (hs' : m ≤ 67108864) :
    Calls Tryd.prog 16 #[.agg #[.bool s, .slice p n c], .agg #[.bool t, .slice q m d]] w (Gives (THREE (ZN ((gz A B : Int))) (ZN (bzX A B)) (ZN (fl ((gz A B : Int) - (bzX A B * A)) B))) w) := by
  have dA : (digs A.natAbs).length ≤ n := by rw [← eA]; exact sg_dl h
  have dB : (digs B.natAbs).length ≤ m := by rw [← eB]; exact sg_dl h'
  have hD : D ≠ 0 := by omega
  have hDZ : (D : Int) ≠ 0 := by omega
  have rb := rm_bounds (A := A) hDZ
  have hRD : R < D := by have := (rb.2.1 (by omega)).2; omega
  have eAq : A = fl A (D : Int) * (D : Int) + (R : Int) := by rw [← eR]; exact rb.1
  have bp := bz_all hB eD eAq
  have hG : Nat.gcd D R = gz A B := by rw [← gz_rest eD eAq, Nat.gcd_comm]; rfl
  have hX := bzX_rest eD eAq
  have hE : rm ((gz A B : Int) - bzX A B * A) B = 0 := bz_dvd hB bp
  have dD : (digs ((D : Int)).natAbs).length ≤ m := by rw [Int.natAbs_natCast, ← eD]; exact dB
  have dDn : (digs D).length ≤ m := by rw [← eD]; exact dB
  have hgD : gz A B ≤ D := by rw [← eD]; exact Nat.le_of_dvd (by omega) (Nat.gcd_dvd_right _ _)
  have dG : (digs ((gz A B : Int)).natAbs).length ≤ m := by rw [Int.natAbs_natCast]; exact Nat.le_trans (digs_length_mono hgD) dDn
  have hXD : (bzX A B).natAbs ≤ D := by
    have h1 := bp.1
    have h2 := bp.2.1
    have h3 : bzX A B * 1 ≤ bzX A B * (gz A B : Int) := Int.mul_le_mul_of_nonneg_left (by have := gz_ne (A := A) hB; omega) h1
    omega
  have dX : (digs (bzX A B).natAbs).length ≤ m := Nat.le_trans (digs_length_mono hXD) dDn
  have dXA : (digs (bzX A B * A).natAbs).length ≤ m + n := dl_mul dX dA
  have dS : (digs ((gz A B : Int) - bzX A B * A).natAbs).length ≤ m + n + 1 := dl_sub (Nat.le_trans dG (by omega)) dXA
  refine calls_sta (sl := [(0, (Zx s p n c xs)), (1, (Zx t q m d ys))]) Tryd.func16 rfl Tryd.ntmps16 (by simp) (args_cons rfl (zx_has h) (args_cons rfl (zx_has h') args_nil)) ?_
  intro a0 S0
  refine wp_stmt_seq [.new (.box 24 (Zx s p n c xs)),
      .new (.box 24 (Zx t q m d ys)),
      .new (.box 24 (Is (.agg #[.bool false, .slice none 0 0]))),
      .new (.box 24 (Is (.agg #[.bool false, .slice none 0 0]))),
      .new (.box 24 (Is (.agg #[.bool false, .slice none 0 0])))] [.inl 0, .inl 1, .inl 2, .inl 3, .inl 4] [] follows S0 rfl (by kernel_rfl) ?_ ?_
  · refine ⟨⟨⟨⟨⟨trivial, ?_⟩, ?_⟩, ?_⟩, ?_⟩, ?_⟩
    · exact owe_box rfl (wants_all rfl) rfl (opnd_slot 0 0 rfl (by kernel_rfl)) rfl (fun ρ w h => box_int shp_zx ρ _ _ w h)
    · exact owe_box rfl (wants_all rfl) rfl (opnd_slot 1 1 rfl (by kernel_rfl)) rfl (fun ρ w h => box_int shp_zx ρ _ _ w h)
    · exact owe_new rfl (wants_all rfl) rfl rfl (fun ρ w => alloc_int ρ _ w)
    · exact owe_new rfl (wants_all rfl) rfl rfl (fun ρ w => alloc_int ρ _ w)
    · exact owe_new rfl (wants_all rfl) rfl rfl (fun ρ w => alloc_int ρ _ w)
  intro B1 a1 W1 S1
  replace S1 : Sta w 52 [(2, (.box 24 (Zx s p n c xs))), (3, (.box 24 (Zx t q m d ys))), (4, (.box 24 (Is (.agg #[.bool false, .slice none 0 0])))), (5, (.box 24 (Is (.agg #[.bool false, .slice none 0 0])))), (6, (.box 24 (Is (.agg #[.bool false, .slice none 0 0]))))] [] B1 a1 W1 := S1
  refine wp_seq ?_
  refine wp_stmt_seq [.val (Zx t q m d ys),
      .val (Is (.int .i64 (B).sign)),
      .val (Is (.bool false))] [.inr 0, .inr 1, .inr 2, .inr 3, .inr 4] [.inl 2] follows S1 rfl (by kernel_rfl) ?_ ?_
  · refine ⟨⟨⟨trivial, ?_⟩, ?_⟩, ?_⟩
    · exact owe_load rfl (wants_all rfl) rfl (k := 1) rfl (by kernel_rfl) (loads_of strct_int shp_zx) rfl
    · exact owe_call1 rfl (wants_all rfl) rfl (opnd_op 0 15 (by kernel_rfl) rfl) (fresh_is _) rfl (fun args w => by go_simp) (fun w u h1 => g_zsignB (by omega) w u ((zx_zv' eB (Nat.le_refl _)) _ _ h1))
    · exact owe_bin rfl (wants_all rfl) rfl (opnd_op 1 16 (by kernel_rfl) rfl) (opnd_const _) rfl (fun ρ w h1 h2 => by exact run_eql_int_f ρ _ _ _ w _ _ (by intro e; exact hB (Int.sign_eq_zero_iff_zero.1 e)) h1 h2)
  intro B2 a2 W2 S2
  replace S2 : Sta w 52 [(2, (.box 24 (Zx s p n c xs))), (3, (.box 24 (Zx t q m d ys))), (4, (.box 24 (Is (.agg #[.bool false, .slice none 0 0])))), (5, (.box 24 (Is (.agg #[.bool false, .slice none 0 0])))), (6, (.box 24 (Is (.agg #[.bool false, .slice none 0 0]))))] [(17, (Is (.bool false)))] B2 a2 W2 := S2
  refine wp_cond_false (S2.bool 0 17 rfl) ?_
  refine wp_skip ?_
  refine thenN ?_
  refine wp_stmt_seq [.val (Zx t q m d ys),
      .val ((ZN (((D : Nat) : Int))) w.heap.size),
      .new (.box 24 (Is (.agg #[.bool false, .slice none 0 0]))),
      .put (.inr 2) (.box 24 ((ZN (((D : Nat) : Int))) w.heap.size))] [.inr 0, .inr 1, .inr 2, .inr 3, .inr 4, .inl 2] [.inr 0] follows S2 rfl (by kernel_rfl) ?_ ?_
  · refine ⟨⟨⟨⟨trivial, ?_⟩, ?_⟩, ?_⟩, ?_⟩
    · exact owe_load rfl (wants_all rfl) rfl (k := 1) rfl (by kernel_rfl) (loads_of strct_int shp_zx) rfl
    · exact owe_call1 rfl (wants_all rfl) rfl (opnd_op 0 24 (by kernel_rfl) rfl) (fresh_zn _) rfl (fun args w => by go_simp) (fun w u0 h0 => Gives.cast ((fun w u h1 => g_zabsB (by omega) w u ((zx_zv' eB (Nat.le_refl _)) _ _ h1)) w u0 h0) (by rw [eD]))
    · exact owe_new rfl (wants_all rfl) rfl rfl (fun ρ w => alloc_int ρ _ w)
    · exact owe_put 2 rfl (wants_all rfl) rfl (by kernel_rfl) rfl (opnd_op 1 25 (by kernel_rfl) rfl) (stores_of strct_int shp_z0 shp_zn) rfl
  intro B3 a3 W3 S3
  replace S3 : Sta w 52 [(2, (.box 24 (Zx s p n c xs))), (3, (.box 24 (Zx t q m d ys))), (4, (.box 24 (Is (.agg #[.bool false, .slice none 0 0])))), (5, (.box 24 (Is (.agg #[.bool false, .slice none 0 0])))), (6, (.box 24 (Is (.agg #[.bool false, .slice none 0 0])))), (7, (.box 24 ((ZN (((D : Nat) : Int))) w.heap.size)))] [(17, (Is (.bool false)))] B3 a3 W3 := S3
  refine wp_stmt_seq [.val (Zx s p n c xs),
      .val ((ZN (((D : Nat) : Int))) w.heap.size),
      .val ((THREE (ZN (fl A (D : Int))) (ZN (((R : Nat) : Int))) (IS (.int .i64 0))) w.heap.size),
      .val ((THREE (ZN (fl A (D : Int))) (ZN (((R : Nat) : Int))) (IS (.int .i64 0))) w.heap.size),
      .val ((ZN (fl A (D : Int))) w.heap.size),
      .val ((ZN (((R : Nat) : Int))) w.heap.size),
      .val (Is (.int .i64 0)),
      .new (.box 24 (Is (.agg #[.bool false, .slice none 0 0]))),
      .new (.box 24 (Is (.agg #[.bool false, .slice none 0 0]))),
      .put (.inr 7) (.box 24 ((ZN (fl A (D : Int))) w.heap.size)),
      .put (.inr 8) (.box 24 ((ZN (((R : Nat) : Int))) w.heap.size)),
      .val (Is (.int .i64 0))] [.inr 0, .inr 1, .inr 2, .inr 3, .inr 4, .inr 5, .inl 7, .inl 8] [.inr 0] follows S3 rfl (by kernel_rfl) ?_ ?_
  · refine ⟨⟨⟨⟨⟨⟨⟨⟨⟨⟨⟨⟨trivial, ?_⟩, ?_⟩, ?_⟩, ?_⟩, ?_⟩, ?_⟩, ?_⟩, ?_⟩, ?_⟩, ?_⟩, ?_⟩, ?_⟩
    · exact owe_load rfl (wants_all rfl) rfl (k := 0) rfl (by kernel_rfl) (loads_of strct_int shp_zx) rfl
    · exact owe_load rfl (wants_all rfl) rfl (k := 5) rfl (by kernel_rfl) (loads_of strct_int shp_zn) rfl
    · exact owe_call2 rfl (wants_all rfl) rfl (opnd_op 0 27 (by kernel_rfl) rfl) (opnd_op 1 28 (by kernel_rfl) rfl) (fresh_three (fresh_zn _) (fresh_zn _) (fresh_is _)) rfl (fun args w => by go_simp) (fun w u0 u1 h0 h1 => Gives.cast ((fun w u v h1 h2 => g_zfloor hDZ (by omega) (by omega) w u v ((zx_zv' eA (Nat.le_refl _)) _ _ h1) ((zn_zv dD) _ _ h2)) w u0 u1 h0 h1) (by rw [eR]))
    · exact owe_move rfl (wants_all rfl) (Or.inl rfl) (opnd_op 2 29 (by kernel_rfl) rfl) rfl
    · exact owe_ext3 rfl (wants_all rfl) rfl (opnd_op 3 26 (by kernel_rfl) rfl) (Or.inl ⟨rfl, rfl⟩) rfl
    · exact owe_ext3 rfl (wants_all rfl) rfl (opnd_op 3 26 (by kernel_rfl) rfl) (Or.inr (Or.inl ⟨rfl, rfl⟩)) rfl
    · exact owe_ext3 rfl (wants_all rfl) rfl (opnd_op 3 26 (by kernel_rfl) rfl) (Or.inr (Or.inr ⟨rfl, rfl⟩)) rfl
    · exact owe_new rfl (wants_all rfl) rfl rfl (fun ρ w => alloc_int ρ _ w)
    · exact owe_new rfl (wants_all rfl) rfl rfl (fun ρ w => alloc_int ρ _ w)
    · exact owe_put 7 rfl (wants_all rfl) rfl (by kernel_rfl) rfl (opnd_op 4 30 (by kernel_rfl) rfl) (stores_of strct_int shp_z0 shp_zn) rfl
    · exact owe_put 8 rfl (wants_all rfl) rfl (by kernel_rfl) rfl (opnd_op 5 31 (by kernel_rfl) rfl) (stores_of strct_int shp_z0 shp_zn) rfl
    · exact owe_move rfl (wants_all rfl) (Or.inr rfl) (opnd_op 6 32 (by kernel_rfl) rfl) rfl
  intro B4 a4 W4 S4
  replace S4 : Sta w 52 [(2, (.box 24 (Zx s p n c xs))), (3, (.box 24 (Zx t q m d ys))), (4, (.box 24 (Is (.agg #[.bool false, .slice none 0 0])))), (5, (.box 24 (Is (.agg #[.bool false, .slice none 0 0])))), (6, (.box 24 (Is (.agg #[.bool false, .slice none 0 0])))), (7, (.box 24 ((ZN (((D : Nat) : Int))) w.heap.size))), (8, (.box 24 ((ZN (fl A (D : Int))) w.heap.size))), (9, (.box 24 ((ZN (((R : Nat) : Int))) w.heap.size)))] [(17, (Is (.bool false)))] B4 a4 W4 := S4
  refine wp_stmt_seq [.val ((ZN (((D : Nat) : Int))) w.heap.size),
      .val ((ZN (((R : Nat) : Int))) w.heap.size),
      .val ((TWO (ZN ((gz A B : Int))) (ZN (bzX A B))) w.heap.size),
      .val ((TWO (ZN ((gz A B : Int))) (ZN (bzX A B))) w.heap.size),
      .val ((ZN ((gz A B : Int))) w.heap.size),
      .val ((ZN (bzX A B)) w.heap.size),
      .new (.box 24 (Is (.agg #[.bool false, .slice none 0 0]))),
      .new (.box 24 (Is (.agg #[.bool false, .slice none 0 0]))),
      .put (.inr 6) (.box 24 ((ZN ((gz A B : Int))) w.heap.size)),
      .put (.inr 7) (.box 24 ((ZN (bzX A B)) w.heap.size))] [.inr 0, .inr 1, .inr 2, .inr 3, .inr 4, .inr 5, .inr 6, .inr 7, .inl 6, .inl 7] [.inr 0] follows S4 rfl (by kernel_rfl) ?_ ?_
  · refine ⟨⟨⟨⟨⟨⟨⟨⟨⟨⟨trivial, ?_⟩, ?_⟩, ?_⟩, ?_⟩, ?_⟩, ?_⟩, ?_⟩, ?_⟩, ?_⟩, ?_⟩
    · exact owe_load rfl (wants_all rfl) rfl (k := 5) rfl (by kernel_rfl) (loads_of strct_int shp_zn) rfl
    · exact owe_load rfl (wants_all rfl) rfl (k := 7) rfl (by kernel_rfl) (loads_of strct_int shp_zn) rfl
    · exact owe_common (by rw [hG]) hX rfl (wants_all rfl) rfl (opnd_op 0 34 (by kernel_rfl) rfl) (opnd_op 1 35 (by kernel_rfl) rfl) (fun w u v hH => common_w _ w u v D R hH hD hRD (by omega)) rfl
    · exact owe_move rfl (wants_all rfl) (Or.inl rfl) (opnd_op 2 36 (by kernel_rfl) rfl) rfl
    · exact owe_ext2 rfl (wants_all rfl) rfl (opnd_op 3 33 (by kernel_rfl) rfl) (Or.inl ⟨rfl, rfl⟩) rfl
    · exact owe_ext2 rfl (wants_all rfl) rfl (opnd_op 3 33 (by kernel_rfl) rfl) (Or.inr ⟨rfl, rfl⟩) rfl
    · exact owe_new rfl (wants_all rfl) rfl rfl (fun ρ w => alloc_int ρ _ w)
    · exact owe_new rfl (wants_all rfl) rfl rfl (fun ρ w => alloc_int ρ _ w)
    · exact owe_put 6 rfl (wants_all rfl) rfl (by kernel_rfl) rfl (opnd_op 4 37 (by kernel_rfl) rfl) (stores_of strct_int shp_z0 shp_zn) rfl
    · exact owe_put 7 rfl (wants_all rfl) rfl (by kernel_rfl) rfl (opnd_op 5 38 (by kernel_rfl) rfl) (stores_of strct_int shp_z0 shp_zn) rfl
  intro B5 a5 W5 S5
  replace S5 : Sta w 52 [(2, (.box 24 (Zx s p n c xs))), (3, (.box 24 (Zx t q m d ys))), (4, (.box 24 (Is (.agg #[.bool false, .slice none 0 0])))), (5, (.box 24 (Is (.agg #[.bool false, .slice none 0 0])))), (6, (.box 24 (Is (.agg #[.bool false, .slice none 0 0])))), (7, (.box 24 ((ZN (((D : Nat) : Int))) w.heap.size))), (8, (.box 24 ((ZN (fl A (D : Int))) w.heap.size))), (9, (.box 24 ((ZN (((R : Nat) : Int))) w.heap.size))), (11, (.box 24 ((ZN ((gz A B : Int))) w.heap.size))), (12, (.box 24 ((ZN (bzX A B)) w.heap.size)))] [(17, (Is (.bool false)))] B5 a5 W5 := S5
  refine wp_stmt_seq [.val ((ZN ((gz A B : Int))) w.heap.size),
      .val ((ZN (bzX A B)) w.heap.size),
      .val (Zx s p n c xs),
      .val ((ZN ((bzX A B) * A)) w.heap.size),
      .val ((ZN (((gz A B : Int)) - ((bzX A B) * A))) w.heap.size),
      .val (Zx t q m d ys),
      .val ((TWO (ZN (fl (((gz A B : Int)) - ((bzX A B) * A)) B)) (IS (.int .i64 0))) w.heap.size),
      .val ((TWO (ZN (fl (((gz A B : Int)) - ((bzX A B) * A)) B)) (IS (.int .i64 0))) w.heap.size),
      .val ((ZN (fl (((gz A B : Int)) - ((bzX A B) * A)) B)) w.heap.size),
      .val (Is (.int .i64 0)),
      .new (.box 24 (Is (.agg #[.bool false, .slice none 0 0]))),
      .put (.inr 10) (.box 24 ((ZN (fl (((gz A B : Int)) - ((bzX A B) * A)) B)) w.heap.size)),
      .val (Is (.int .i64 0))] [.inr 0, .inr 1, .inr 2, .inr 3, .inr 4, .inr 5, .inr 6, .inr 7, .inr 8, .inr 9, .inl 10] [.inr 0] follows S5 rfl (by kernel_rfl) ?_ ?_
  · refine ⟨⟨⟨⟨⟨⟨⟨⟨⟨⟨⟨⟨⟨trivial, ?_⟩, ?_⟩, ?_⟩, ?_⟩, ?_⟩, ?_⟩, ?_⟩, ?_⟩, ?_⟩, ?_⟩, ?_⟩, ?_⟩, ?_⟩
    · exact owe_load rfl (wants_all rfl) rfl (k := 8) rfl (by kernel_rfl) (loads_of strct_int shp_zn) rfl
    · exact owe_load rfl (wants_all rfl) rfl (k := 9) rfl (by kernel_rfl) (loads_of strct_int shp_zn) rfl
    · exact owe_load rfl (wants_all rfl) rfl (k := 0) rfl (by kernel_rfl) (loads_of strct_int shp_zx) rfl
    · exact owe_call2 rfl (wants_all rfl) rfl (opnd_op 1 41 (by kernel_rfl) rfl) (opnd_op 2 42 (by kernel_rfl) rfl) (fresh_zn _) rfl (fun args w => by go_simp) (fun w u v h1 h2 => g_zmul (by omega) w u v ((zn_zv dX) _ _ h1) ((zx_zv' eA (Nat.le_refl _)) _ _ h2))
    · exact owe_call2 rfl (wants_all rfl) rfl (opnd_op 0 40 (by kernel_rfl) rfl) (opnd_op 3 43 (by kernel_rfl) rfl) (fresh_zn _) rfl (fun args w => by go_simp) (fun w u v h1 h2 => g_zsub (by omega) (by omega) w u v ((zn_zv dG) _ _ h1) ((zn_zv (Nat.le_refl _)) _ _ h2))
    · exact owe_load rfl (wants_all rfl) rfl (k := 1) rfl (by kernel_rfl) (loads_of strct_int shp_zx) rfl
    · exact owe_call2 rfl (wants_all rfl) rfl (opnd_op 4 44 (by kernel_rfl) rfl) (opnd_op 5 45 (by kernel_rfl) rfl) (fresh_two (fresh_zn _) (fresh_is _)) rfl (fun args w => by go_simp) (fun w u v h1 h2 => g_zexact2 hB hE (by omega) w u v ((zn_zv (Nat.le_refl _)) _ _ h1) ((zx_zv' eB (Nat.le_refl _)) _ _ h2))
    · exact owe_move rfl (wants_all rfl) (Or.inl rfl) (opnd_op 6 46 (by kernel_rfl) rfl) rfl
    · exact owe_ext2 rfl (wants_all rfl) rfl (opnd_op 7 39 (by kernel_rfl) rfl) (Or.inl ⟨rfl, rfl⟩) rfl
    · exact owe_ext2 rfl (wants_all rfl) rfl (opnd_op 7 39 (by kernel_rfl) rfl) (Or.inr ⟨rfl, rfl⟩) rfl
    · exact owe_new rfl (wants_all rfl) rfl rfl (fun ρ w => alloc_int ρ _ w)
    · exact owe_put 10 rfl (wants_all rfl) rfl (by kernel_rfl) rfl (opnd_op 8 47 (by kernel_rfl) rfl) (stores_of strct_int shp_z0 shp_zn) rfl
    · exact owe_move rfl (wants_all rfl) (Or.inr rfl) (opnd_op 9 48 (by kernel_rfl) rfl) rfl
  intro B6 a6 W6 S6
  replace S6 : Sta w 52 [(2, (.box 24 (Zx s p n c xs))), (3, (.box 24 (Zx t q m d ys))), (4, (.box 24 (Is (.agg #[.bool false, .slice none 0 0])))), (5, (.box 24 (Is (.agg #[.bool false, .slice none 0 0])))), (6, (.box 24 (Is (.agg #[.bool false, .slice none 0 0])))), (7, (.box 24 ((ZN (((D : Nat) : Int))) w.heap.size))), (8, (.box 24 ((ZN (fl A (D : Int))) w.heap.size))), (9, (.box 24 ((ZN (((R : Nat) : Int))) w.heap.size))), (11, (.box 24 ((ZN ((gz A B : Int))) w.heap.size))), (12, (.box 24 ((ZN (bzX A B)) w.heap.size))), (13, (.box 24 ((ZN (fl (((gz A B : Int)) - ((bzX A B) * A)) B)) w.heap.size)))] [(17, (Is (.bool false)))] B6 a6 W6 := S6
  refine wp_stmt_seq [.val ((ZN ((gz A B : Int))) w.heap.size),
      .val ((ZN (bzX A B)) w.heap.size),
      .val ((ZN (fl (((gz A B : Int)) - ((bzX A B) * A)) B)) w.heap.size),
      .put (.inl 4) (.box 24 ((ZN ((gz A B : Int))) w.heap.size)),
      .put (.inl 5) (.box 24 ((ZN (bzX A B)) w.heap.size)),
      .put (.inl 6) (.box 24 ((ZN (fl (((gz A B : Int)) - ((bzX A B) * A)) B)) w.heap.size))] [.inr 0, .inr 1, .inr 2, .inr 3, .inr 4, .inr 5, .inr 6, .inr 7, .inr 8, .inr 9, .inr 10] [.inr 0] follows S6 rfl (by kernel_rfl) ?_ ?_
  · refine ⟨⟨⟨⟨⟨⟨trivial, ?_⟩, ?_⟩, ?_⟩, ?_⟩, ?_⟩, ?_⟩
    · exact owe_load rfl (wants_all rfl) rfl (k := 8) rfl (by kernel_rfl) (loads_of strct_int shp_zn) rfl
    · exact owe_load rfl (wants_all rfl) rfl (k := 9) rfl (by kernel_rfl) (loads_of strct_int shp_zn) rfl
    · exact owe_load rfl (wants_all rfl) rfl (k := 10) rfl (by kernel_rfl) (loads_of strct_int shp_zn) rfl
    · exact owe_set rfl (wants_all rfl) rfl (k := 2) rfl (by kernel_rfl) (opnd_op 0 49 (by kernel_rfl) rfl) (stores_of strct_int shp_z0 shp_zn) rfl
    · exact owe_set rfl (wants_all rfl) rfl (k := 3) rfl (by kernel_rfl) (opnd_op 1 50 (by kernel_rfl) rfl) (stores_of strct_int shp_z0 shp_zn) rfl
    · exact owe_set rfl (wants_all rfl) rfl (k := 4) rfl (by kernel_rfl) (opnd_op 2 51 (by kernel_rfl) rfl) (stores_of strct_int shp_z0 shp_zn) rfl
  intro B7 a7 W7 S7
  replace S7 : Sta w 52 [(2, (.box 24 (Zx s p n c xs))), (3, (.box 24 (Zx t q m d ys))), (4, (.box 24 ((ZN ((gz A B : Int))) w.heap.size))), (5, (.box 24 ((ZN (bzX A B)) w.heap.size))), (6, (.box 24 ((ZN (fl (((gz A B : Int)) - ((bzX A B) * A)) B)) w.heap.size))), (7, (.box 24 ((ZN (((D : Nat) : Int))) w.heap.size))), (8, (.box 24 ((ZN (fl A (D : Int))) w.heap.size))), (9, (.box 24 ((ZN (((R : Nat) : Int))) w.heap.size))), (11, (.box 24 ((ZN ((gz A B : Int))) w.heap.size))), (12, (.box 24 ((ZN (bzX A B)) w.heap.size))), (13, (.box 24 ((ZN (fl (((gz A B : Int)) - ((bzX A B) * A)) B)) w.heap.size)))] [(17, (Is (.bool false)))] B7 a7 W7 := S7
  refine wp_ret ?_
  exact end_three S7 rfl (res_cell S7 2 4 rfl strct_int shp_zn) (res_cell S7 3 5 rfl strct_int shp_zn) (res_cell S7 4 6 rfl strct_int shp_zn)

set_option maxHeartbeats 400000 in
theorem zbez_w0 (w : World) (s t : Bool) (p q : Option Addr) (n c m d : Nat) (xs ys : List Nat) (h : Sl w p n c xs) (h' : Sl w q m d ys) (A B : Int) (eA : sg s (val xs) = A) (eB : sg t (val ys) = B) (hB : B = 0) (hs : n ≤ 67108864) (hs' : m ≤ 67108864) :
    Calls Tryd.prog 16 #[.agg #[.bool s, .slice p n c], .agg #[.bool t, .slice q m d]] w (Gives (THREE (ZN ((A.natAbs : Int))) (ZN (A.sign)) (IS (.agg #[.bool false, .slice none 0 0]))) w) := by
  have hsg := sign_small A
  refine calls_sta (sl := [(0, (Zx s p n c xs)), (1, (Zx t q m d ys))]) Tryd.func16 rfl Tryd.ntmps16 (by simp) (args_cons rfl (zx_has h) (args_cons rfl (zx_has h') args_nil)) ?_
  intro a0 S0
  refine wp_stmt_seq [.new (.box 24 (Zx s p n c xs)),
      .new (.box 24 (Zx t q m d ys)),
      .new (.box 24 (Is (.agg #[.bool false, .slice none 0 0]))),
      .new (.box 24 (Is (.agg #[.bool false, .slice none 0 0]))),
      .new (.box 24 (Is (.agg #[.bool false, .slice none 0 0])))] [.inl 0, .inl 1, .inl 2, .inl 3, .inl 4] [] follows S0 rfl (by kernel_rfl) ?_ ?_
  · refine ⟨⟨⟨⟨⟨trivial, ?_⟩, ?_⟩, ?_⟩, ?_⟩, ?_⟩
    · exact owe_box rfl (wants_all rfl) rfl (opnd_slot 0 0 rfl (by kernel_rfl)) rfl (fun ρ w h => box_int shp_zx ρ _ _ w h)
    · exact owe_box rfl (wants_all rfl) rfl (opnd_slot 1 1 rfl (by kernel_rfl)) rfl (fun ρ w h => box_int shp_zx ρ _ _ w h)
    · exact owe_new rfl (wants_all rfl) rfl rfl (fun ρ w => alloc_int ρ _ w)
    · exact owe_new rfl (wants_all rfl) rfl rfl (fun ρ w => alloc_int ρ _ w)
    · exact owe_new rfl (wants_all rfl) rfl rfl (fun ρ w => alloc_int ρ _ w)
  intro B1 a1 W1 S1
  replace S1 : Sta w 52 [(2, (.box 24 (Zx s p n c xs))), (3, (.box 24 (Zx t q m d ys))), (4, (.box 24 (Is (.agg #[.bool false, .slice none 0 0])))), (5, (.box 24 (Is (.agg #[.bool false, .slice none 0 0])))), (6, (.box 24 (Is (.agg #[.bool false, .slice none 0 0]))))] [] B1 a1 W1 := S1
  refine wp_seq ?_
  refine wp_stmt_seq [.val (Zx t q m d ys),
      .val (Is (.int .i64 (B).sign)),
      .val (Is (.bool true))] [.inr 0, .inr 1, .inr 2, .inr 3, .inr 4] [.inl 2] follows S1 rfl (by kernel_rfl) ?_ ?_
  · refine ⟨⟨⟨trivial, ?_⟩, ?_⟩, ?_⟩
    · exact owe_load rfl (wants_all rfl) rfl (k := 1) rfl (by kernel_rfl) (loads_of strct_int shp_zx) rfl
    · exact owe_call1 rfl (wants_all rfl) rfl (opnd_op 0 15 (by kernel_rfl) rfl) (fresh_is _) rfl (fun args w => by go_simp) (fun w u h1 => g_zsignB (by omega) w u ((zx_zv' eB (Nat.le_refl _)) _ _ h1))
    · exact owe_bin rfl (wants_all rfl) rfl (opnd_op 1 16 (by kernel_rfl) rfl) (opnd_const _) rfl (fun ρ w h1 h2 => by exact run_eql_int_t ρ _ _ _ w _ _ (by rw [hB]; rfl) h1 h2)
  intro B2 a2 W2 S2
  replace S2 : Sta w 52 [(2, (.box 24 (Zx s p n c xs))), (3, (.box 24 (Zx t q m d ys))), (4, (.box 24 (Is (.agg #[.bool false, .slice none 0 0])))), (5, (.box 24 (Is (.agg #[.bool false, .slice none 0 0])))), (6, (.box 24 (Is (.agg #[.bool false, .slice none 0 0]))))] [(17, (Is (.bool true)))] B2 a2 W2 := S2
  refine wp_cond_true (S2.bool 0 17 rfl) ?_
  refine wp_stmt_seq [.val (Zx s p n c xs),
      .val ((ZN (((A).natAbs : Int))) w.heap.size),
      .val (Zx s p n c xs),
      .val (Is (.int .i64 (A).sign)),
      .val ((ZN ((A).sign)) w.heap.size),
      .val (Is (.agg #[.bool false, .slice none 0 0])),
      .put (.inl 4) (.box 24 ((ZN (((A).natAbs : Int))) w.heap.size)),
      .put (.inl 5) (.box 24 ((ZN ((A).sign)) w.heap.size)),
      .put (.inl 6) (.box 24 (Is (.agg #[.bool false, .slice none 0 0])))] [.inr 0, .inr 1, .inr 2, .inr 3, .inr 4] [.inr 0] follows S2 rfl (by kernel_rfl) ?_ ?_
  · refine ⟨⟨⟨⟨⟨⟨⟨⟨⟨trivial, ?_⟩, ?_⟩, ?_⟩, ?_⟩, ?_⟩, ?_⟩, ?_⟩, ?_⟩, ?_⟩
    · exact owe_load rfl (wants_all rfl) rfl (k := 0) rfl (by kernel_rfl) (loads_of strct_int shp_zx) rfl
    · exact owe_call1 rfl (wants_all rfl) rfl (opnd_op 0 18 (by kernel_rfl) rfl) (fresh_zn _) rfl (fun args w => by go_simp) (fun w u h1 => g_zabsB (by omega) w u ((zx_zv' eA (Nat.le_refl _)) _ _ h1))
    · exact owe_load rfl (wants_all rfl) rfl (k := 0) rfl (by kernel_rfl) (loads_of strct_int shp_zx) rfl
    · exact owe_call1 rfl (wants_all rfl) rfl (opnd_op 2 20 (by kernel_rfl) rfl) (fresh_is _) rfl (fun args w => by go_simp) (fun w u h1 => g_zsignB (by omega) w u ((zx_zv' eA (Nat.le_refl _)) _ _ h1))
    · exact owe_call1 rfl (wants_all rfl) rfl (opnd_op 3 21 (by kernel_rfl) rfl) (fresh_zn _) rfl (fun args w => by go_simp) (g_zof (A).sign (by omega) (by omega))
    · exact owe_build_int rfl (wants_all rfl) rfl rfl
    · exact owe_set rfl (wants_all rfl) rfl (k := 2) rfl (by kernel_rfl) (opnd_op 1 19 (by kernel_rfl) rfl) (stores_of strct_int shp_z0 shp_zn) rfl
    · exact owe_set rfl (wants_all rfl) rfl (k := 3) rfl (by kernel_rfl) (opnd_op 4 22 (by kernel_rfl) rfl) (stores_of strct_int shp_z0 shp_zn) rfl
    · exact owe_set rfl (wants_all rfl) rfl (k := 4) rfl (by kernel_rfl) (opnd_op 5 23 (by kernel_rfl) rfl) (stores_of strct_int shp_z0 shp_z0) rfl
  intro B3 a3 W3 S3
  replace S3 : Sta w 52 [(2, (.box 24 (Zx s p n c xs))), (3, (.box 24 (Zx t q m d ys))), (4, (.box 24 ((ZN (((A).natAbs : Int))) w.heap.size))), (5, (.box 24 ((ZN ((A).sign)) w.heap.size))), (6, (.box 24 (Is (.agg #[.bool false, .slice none 0 0]))))] [(17, (Is (.bool true)))] B3 a3 W3 := S3
  refine wp_ret ?_
  refine thenR ?_
  exact end_three S3 rfl (res_cell S3 2 4 rfl strct_int shp_zn) (res_cell S3 3 5 rfl strct_int shp_zn) (res_cell S3 4 6 rfl strct_int shp_z0)

theorem g_zbez {A B : Int} {ka kb : Nat} (hB : B ≠ 0) (hk : ka ≤ 67108864) (hk' : kb ≤ 67108864) : ∀ w u v, Zv A ka u w → Zv B kb v w → Calls Tryd.prog 16 #[u, v] w (Gives (THREE (ZN (gz A B : Int)) (ZN (bzX A B)) (ZN (fl ((gz A B : Int) - (bzX A B * A)) B))) w) := by
  rintro w u v ⟨s, p, n, c, xs, rfl, h, rfl, hn⟩ ⟨t, q, m, d, ys, rfl, h', rfl, hm⟩
  have hD : ((sg t (val ys)).natAbs : Int) ≠ 0 := by omega
  have rb := (rm_bounds (A := sg s (val xs)) hD).2.1 (by omega)
  exact zbez_w w s t p q n c m d xs ys h h' _ _ rfl rfl hB _ (rm (sg s (val xs)) ((sg t (val ys)).natAbs : Int)).natAbs rfl (by omega) (by omega) (by omega)
theorem g_zbez0 {A B : Int} {ka kb : Nat} (hB : B = 0) (hk : ka ≤ 67108864) (hk' : kb ≤ 67108864) : ∀ w u v, Zv A ka u w → Zv B kb v w → Calls Tryd.prog 16 #[u, v] w (Gives (THREE (ZN (A.natAbs : Int)) (ZN A.sign) (ZN 0)) w) := by
  rintro w u v ⟨s, p, n, c, xs, rfl, h, rfl, hn⟩ ⟨t, q, m, d, ys, rfl, h', rfl, hm⟩
  refine (zbez_w0 w s t p q n c m d xs ys h h' _ _ rfl rfl hB (by omega) (by omega)).mono ?_
  rintro e w' ⟨v, rfl, hb, x, y, z, rfl, h1, h2, h3⟩
  exact ⟨_, rfl, hb, x, y, z, rfl, h1, h2, zero_zn _ _ h3⟩

end Go.Proofs.YtblmlhhicpomkaaDoor

/-
  The document's Bezout.
-/
namespace Go.Proofs.YtblmlhhicpomkaaDoor
open Go Go.RowKit Nt
set_option linter.unusedSimpArgs false
set_option linter.unusedVariables false

end Go.Proofs.YtblmlhhicpomkaaDoor

/-
  ZintDivisors' walk: it returns true and writes nothing that was there.
-/
namespace Go.Proofs.YtblmlhhicpomkaaDoor
open Go Go.RowKit Nt
set_option linter.unusedSimpArgs false
set_option linter.unusedVariables false

end Go.Proofs.YtblmlhhicpomkaaDoor
