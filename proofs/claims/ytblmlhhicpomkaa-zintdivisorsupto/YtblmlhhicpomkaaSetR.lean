import Derived.Test.YtblmlhhicpomkaaSetN
import Derived.Test.YtblmlhhicpomkaaBOps
/-
  zint.Gcd, zint.Bezout.
-/
namespace Go.Proofs.Ytblmlhhicpomkaa
open Go Go.RowKit Nt
set_option linter.unusedSimpArgs false
set_option linter.unusedVariables false

set_option maxHeartbeats 400000 in
theorem zbez_w (w : World) (s t : Bool) (p q : Option Addr) (n c m d : Nat) (xs ys : List Nat) (h : Sl w p n c xs) (h' : Sl w q m d ys) (A B : Int) (eA : sg s (val xs) = A) (eB : sg t (val ys) = B) (hB : B ≠ 0) (D R : Nat) (eD : B.natAbs = D) (eR : rm A (D : Int) = (R : Int)) (hs : n ≤ 67108864) (hs' : m ≤ 67108864) :
    Calls Try.prog 8 #[.agg #[.bool s, .slice p n c], .agg #[.bool t, .slice q m d]] w (Gives (THREE (ZN ((gz A B : Int))) (ZN (bzX A B)) (ZN (fl ((gz A B : Int) - (bzX A B * A)) B))) w) := by
  have dA : (digs A.natAbs).length ≤ n := by rw [← eA]; exact sg_dl h
  have dB : (digs B.natAbs).length ≤ m := by rw [← eB]; exact sg_dl h'
  have hD : D ≠ 0 := by omega
  have hDZ : (D : Int) ≠ 0 := by omega
  have rb := rm_bounds (A := A) hDZ
  have hRD : R < D := by have := (rb.2.1 (by omega)).2; omega
  have eAq : A = fl A (D : Int) * (D : Int) + (R : Int) := by rw [← eR]; exact rb.1
  have bp := bz_all hB eD eAq
  have hG : Nat.gcd D R = gz A B := by rw [← gz_rest eD eAq, Nat.gcd_comm]; rfl
  have hX := bzX_rest eD eAq
  have hE : rm ((gz A B : Int) - bzX A B * A) B = 0 := bz_dvd hB bp
  have dD : (digs ((D : Int)).natAbs).length ≤ m := by rw [Int.natAbs_natCast, ← eD]; exact dB
  have dDn : (digs D).length ≤ m := by rw [← eD]; exact dB
  have hgD : gz A B ≤ D := by rw [← eD]; exact Nat.le_of_dvd (by omega) (Nat.gcd_dvd_right _ _)
  have dG : (digs ((gz A B : Int)).natAbs).length ≤ m := by rw [Int.natAbs_natCast]; exact Nat.le_trans (digs_length_mono hgD) dDn
  have hXD : (bzX A B).natAbs ≤ D := by
    have h1 := bp.1
    have h2 := bp.2.1
    have h3 : bzX A B * 1 ≤ bzX A B * (gz A B : Int) := Int.mul_le_mul_of_nonneg_left (by have := gz_ne (A := A) hB; omega) h1
    omega
  have dX : (digs (bzX A B).natAbs).length ≤ m := Nat.le_trans (digs_length_mono hXD) dDn
  have dXA : (digs (bzX A B * A).natAbs).length ≤ m + n := dl_mul dX dA
  have dS : (digs ((gz A B : Int) - bzX A B * A).natAbs).length ≤ m + n + 1 := dl_sub (Nat.le_trans dG (by omega)) dXA
  refine calls_sta (sl := [(0, (Zx s p n c xs)), (1, (Zx t q m d ys))]) Try.func8 rfl Try.ntmps8 (by simp) (args_cons rfl (zx_has h) (args_cons rfl (zx_has h') args_nil)) ?_
  intro a0 S0
  refine wp_stmt_seq [.new (.box 24 (Zx s p n c xs)),
      .new (.box 24 (Zx t q m d ys)),
      .new (.box 24 (Is (.agg #[.bool false, .slice none 0 0]))),
      .new (.box 24 (Is (.agg #[.bool false, .slice none 0 0]))),
      .new (.box 24 (Is (.agg #[.bool false, .slice none 0 0])))] [.inl 0, .inl 1, .inl 2, .inl 3, .inl 4] [] follows S0 rfl (by kernel_rfl) ?_ ?_
  · refine ⟨⟨⟨⟨⟨trivial, ?_⟩, ?_⟩, ?_⟩, ?_⟩, ?_⟩
    · exact owe_box rfl (wants_all rfl) rfl (opnd_slot 0 0 rfl (by kernel_rfl)) rfl (fun ρ w h => box_int shp_zx ρ _ _ w h)
    · exact owe_box rfl (wants_all rfl) rfl (opnd_slot 1 1 rfl (by kernel_rfl)) rfl (fun ρ w h => box_int shp_zx ρ _ _ w h)
    · exact owe_new rfl (wants_all rfl) rfl rfl (fun ρ w => alloc_int ρ _ w)
    · exact owe_new rfl (wants_all rfl) rfl rfl (fun ρ w => alloc_int ρ _ w)
    · exact owe_new rfl (wants_all rfl) rfl rfl (fun ρ w => alloc_int ρ _ w)
  intro B1 a1 W1 S1
  replace S1 : Sta w 52 [(2, (.box 24 (Zx s p n c xs))), (3, (.box 24 (Zx t q m d ys))), (4, (.box 24 (Is (.agg #[.bool false, .slice none 0 0])))), (5, (.box 24 (Is (.agg #[.bool false, .slice none 0 0])))), (6, (.box 24 (Is (.agg #[.bool false, .slice none 0 0]))))] [] B1 a1 W1 := S1
  refine wp_seq ?_
  refine wp_stmt_seq [.val (Zx t q m d ys),
      .val (Is (.int .i64 (B).sign)),
      .val (Is (.bool false))] [.inr 0, .inr 1, .inr 2, .inr 3, .inr 4] [.inl 2] follows S1 rfl (by kernel_rfl) ?_ ?_
  · refine ⟨⟨⟨trivial, ?_⟩, ?_⟩, ?_⟩
    · exact owe_load rfl (wants_all rfl) rfl (k := 1) rfl (by kernel_rfl) (loads_of strct_int shp_zx) rfl
    · exact owe_call1 rfl (wants_all rfl) rfl (opnd_op 0 15 (by kernel_rfl) rfl) (fresh_is _) rfl (fun args w => by go_simp) (fun w u h1 => g_zsignB (by omega) w u ((zx_zv' eB (Nat.le_refl _)) _ _ h1))
    · exact owe_bin rfl (wants_all rfl) rfl (opnd_op 1 16 (by kernel_rfl) rfl) (opnd_const _) rfl (fun ρ w h1 h2 => by exact run_eql_int_f ρ _ _ _ w _ _ (by intro e; exact hB (Int.sign_eq_zero_iff_zero.1 e)) h1 h2)
  intro B2 a2 W2 S2
  replace S2 : Sta w 52 [(2, (.box 24 (Zx s p n c xs))), (3, (.box 24 (Zx t q m d ys))), (4, (.box 24 (Is (.agg #[.bool false, .slice none 0 0])))), (5, (.box 24 (Is (.agg #[.bool false, .slice none 0 0])))), (6, (.box 24 (Is (.agg #[.bool false, .slice none 0 0]))))] [(17, (Is (.bool false)))] B2 a2 W2 := S2
  refine wp_cond_false (S2.bool 0 17 rfl) ?_
  refine wp_skip ?_
  refine thenN ?_
  refine wp_stmt_seq [.val (Zx t q m d ys),
      .val ((ZN (((D : Nat) : Int))) w.heap.size),
      .new (.box 24 (Is (.agg #[.bool false, .slice none 0 0]))),
      .put (.inr 2) (.box 24 ((ZN (((D : Nat) : Int))) w.heap.size))] [.inr 0, .inr 1, .inr 2, .inr 3, .inr 4, .inl 2] [.inr 0] follows S2 rfl (by kernel_rfl) ?_ ?_
  · refine ⟨⟨⟨⟨trivial, ?_⟩, ?_⟩, ?_⟩, ?_⟩
    · exact owe_load rfl (wants_all rfl) rfl (k := 1) rfl (by kernel_rfl) (loads_of strct_int shp_zx) rfl
    · exact owe_call1 rfl (wants_all rfl) rfl (opnd_op 0 24 (by kernel_rfl) rfl) (fresh_zn _) rfl (fun args w => by go_simp) (fun w u0 h0 => Gives.cast ((fun w u h1 => g_zabsB (by omega) w u ((zx_zv' eB (Nat.le_refl _)) _ _ h1)) w u0 h0) (by rw [eD]))
    · exact owe_new rfl (wants_all rfl) rfl rfl (fun ρ w => alloc_int ρ _ w)
    · exact owe_put 2 rfl (wants_all rfl) rfl (by kernel_rfl) rfl (opnd_op 1 25 (by kernel_rfl) rfl) (stores_of strct_int shp_z0 shp_zn) rfl
  intro B3 a3 W3 S3
  replace S3 : Sta w 52 [(2, (.box 24 (Zx s p n c xs))), (3, (.box 24 (Zx t q m d ys))), (4, (.box 24 (Is (.agg #[.bool false, .slice none 0 0])))), (5, (.box 24 (Is (.agg #[.bool false, .slice none 0 0])))), (6, (.box 24 (Is (.agg #[.bool false, .slice none 0 0])))), (7, (.box 24 ((ZN (((D : Nat) : Int))) w.heap.size)))] [(17, (Is (.bool false)))] B3 a3 W3 := S3
  refine wp_stmt_seq [.val (Zx s p n c xs),
      .val ((ZN (((D : Nat) : Int))) w.heap.size),
      .val ((THREE (ZN (fl A (D : Int))) (ZN (((R : Nat) : Int))) (IS (.int .i64 0))) w.heap.size),
      .val ((THREE (ZN (fl A (D : Int))) (ZN (((R : Nat) : Int))) (IS (.int .i64 0))) w.heap.size),
      .val ((ZN (fl A (D : Int))) w.heap.size),
      .val ((ZN (((R : Nat) : Int))) w.heap.size),
      .val (Is (.int .i64 0)),
      .new (.box 24 (Is (.agg #[.bool false, .slice none 0 0]))),
      .new (.box 24 (Is (.agg #[.bool false, .slice none 0 0]))),
      .put (.inr 7) (.box 24 ((ZN (fl A (D : Int))) w.heap.size)),
      .put (.inr 8) (.box 24 ((ZN (((R : Nat) : Int))) w.heap.size)),
      .val (Is (.int .i64 0))] [.inr 0, .inr 1, .inr 2, .inr 3, .inr 4, .inr 5, .inl 7, .inl 8] [.inr 0] follows S3 rfl (by kernel_rfl) ?_ ?_
  · refine ⟨⟨⟨⟨⟨⟨⟨⟨⟨⟨⟨⟨trivial, ?_⟩, ?_⟩, ?_⟩, ?_⟩, ?_⟩, ?_⟩, ?_⟩, ?_⟩, ?_⟩, ?_⟩, ?_⟩, ?_⟩
    · exact owe_load rfl (wants_all rfl) rfl (k := 0) rfl (by kernel_rfl) (loads_of strct_int shp_zx) rfl
    · exact owe_load rfl (wants_all rfl) rfl (k := 5) rfl (by kernel_rfl) (loads_of strct_int shp_zn) rfl
    · exact owe_call2 rfl (wants_all rfl) rfl (opnd_op 0 27 (by kernel_rfl) rfl) (opnd_op 1 28 (by kernel_rfl) rfl) (fresh_three (fresh_zn _) (fresh_zn _) (fresh_is _)) rfl (fun args w => by go_simp) (fun w u0 u1 h0 h1 => Gives.cast ((fun w u v h1 h2 => g_zfloor hDZ (by omega) (by omega) w u v ((zx_zv' eA (Nat.le_refl _)) _ _ h1) ((zn_zv dD) _ _ h2)) w u0 u1 h0 h1) (by rw [eR]))
    · exact owe_move rfl (wants_all rfl) (Or.inl rfl) (opnd_op 2 29 (by kernel_rfl) rfl) rfl
    · exact owe_ext3 rfl (wants_all rfl) rfl (opnd_op 3 26 (by kernel_rfl) rfl) (Or.inl ⟨rfl, rfl⟩) rfl
    · exact owe_ext3 rfl (wants_all rfl) rfl (opnd_op 3 26 (by kernel_rfl) rfl) (Or.inr (Or.inl ⟨rfl, rfl⟩)) rfl
    · exact owe_ext3 rfl (wants_all rfl) rfl (opnd_op 3 26 (by kernel_rfl) rfl) (Or.inr (Or.inr ⟨rfl, rfl⟩)) rfl
    · exact owe_new rfl (wants_all rfl) rfl rfl (fun ρ w => alloc_int ρ _ w)
    · exact owe_new rfl (wants_all rfl) rfl rfl (fun ρ w => alloc_int ρ _ w)
    · exact owe_put 7 rfl (wants_all rfl) rfl (by kernel_rfl) rfl (opnd_op 4 30 (by kernel_rfl) rfl) (stores_of strct_int shp_z0 shp_zn) rfl
    · exact owe_put 8 rfl (wants_all rfl) rfl (by kernel_rfl) rfl (opnd_op 5 31 (by kernel_rfl) rfl) (stores_of strct_int shp_z0 shp_zn) rfl
    · exact owe_move rfl (wants_all rfl) (Or.inr rfl) (opnd_op 6 32 (by kernel_rfl) rfl) rfl
  intro B4 a4 W4 S4
  replace S4 : Sta w 52 [(2, (.box 24 (Zx s p n c xs))), (3, (.box 24 (Zx t q m d ys))), (4, (.box 24 (Is (.agg #[.bool false, .slice none 0 0])))), (5, (.box 24 (Is (.agg #[.bool false, .slice none 0 0])))), (6, (.box 24 (Is (.agg #[.bool false, .slice none 0 0])))), (7, (.box 24 ((ZN (((D : Nat) : Int))) w.heap.size))), (8, (.box 24 ((ZN (fl A (D : Int))) w.heap.size))), (9, (.box 24 ((ZN (((R : Nat) : Int))) w.heap.size)))] [(17, (Is (.bool false)))] B4 a4 W4 := S4
  refine wp_stmt_seq [.val ((ZN (((D : Nat) : Int))) w.heap.size),
      .val ((ZN (((R : Nat) : Int))) w.heap.size),
      .val ((TWO (ZN ((gz A B : Int))) (ZN (bzX A B))) w.heap.size),
      .val ((TWO (ZN ((gz A B : Int))) (ZN (bzX A B))) w.heap.size),
      .val ((ZN ((gz A B : Int))) w.heap.size),
      .val ((ZN (bzX A B)) w.heap.size),
      .new (.box 24 (Is (.agg #[.bool false, .slice none 0 0]))),
      .new (.box 24 (Is (.agg #[.bool false, .slice none 0 0]))),
      .put (.inr 6) (.box 24 ((ZN ((gz A B : Int))) w.heap.size)),
      .put (.inr 7) (.box 24 ((ZN (bzX A B)) w.heap.size))] [.inr 0, .inr 1, .inr 2, .inr 3, .inr 4, .inr 5, .inr 6, .inr 7, .inl 6, .inl 7] [.inr 0] follows S4 rfl (by kernel_rfl) ?_ ?_
  · refine ⟨⟨⟨⟨⟨⟨⟨⟨⟨⟨trivial, ?_⟩, ?_⟩, ?_⟩, ?_⟩, ?_⟩, ?_⟩, ?_⟩, ?_⟩, ?_⟩, ?_⟩
    · exact owe_load rfl (wants_all rfl) rfl (k := 5) rfl (by kernel_rfl) (loads_of strct_int shp_zn) rfl
    · exact owe_load rfl (wants_all rfl) rfl (k := 7) rfl (by kernel_rfl) (loads_of strct_int shp_zn) rfl
    · exact owe_common (by rw [hG]) hX rfl (wants_all rfl) rfl (opnd_op 0 34 (by kernel_rfl) rfl) (opnd_op 1 35 (by kernel_rfl) rfl) (fun w u v hH => common_w _ w u v D R hH hD hRD (by omega)) rfl
    · exact owe_move rfl (wants_all rfl) (Or.inl rfl) (opnd_op 2 36 (by kernel_rfl) rfl) rfl
    · exact owe_ext2 rfl (wants_all rfl) rfl (opnd_op 3 33 (by kernel_rfl) rfl) (Or.inl ⟨rfl, rfl⟩) rfl
    · exact owe_ext2 rfl (wants_all rfl) rfl (opnd_op 3 33 (by kernel_rfl) rfl) (Or.inr ⟨rfl, rfl⟩) rfl
    · exact owe_new rfl (wants_all rfl) rfl rfl (fun ρ w => alloc_int ρ _ w)
    · exact owe_new rfl (wants_all rfl) rfl rfl (fun ρ w => alloc_int ρ _ w)
    · exact owe_put 6 rfl (wants_all rfl) rfl (by kernel_rfl) rfl (opnd_op 4 37 (by kernel_rfl) rfl) (stores_of strct_int shp_z0 shp_zn) rfl
    · exact owe_put 7 rfl (wants_all rfl) rfl (by kernel_rfl) rfl (opnd_op 5 38 (by kernel_rfl) rfl) (stores_of strct_int shp_z0 shp_zn) rfl
  intro B5 a5 W5 S5
  replace S5 : Sta w 52 [(2, (.box 24 (Zx s p n c xs))), (3, (.box 24 (Zx t q m d ys))), (4, (.box 24 (Is (.agg #[.bool false, .slice none 0 0])))), (5, (.box 24 (Is (.agg #[.bool false, .slice none 0 0])))), (6, (.box 24 (Is (.agg #[.bool false, .slice none 0 0])))), (7, (.box 24 ((ZN (((D : Nat) : Int))) w.heap.size))), (8, (.box 24 ((ZN (fl A (D : Int))) w.heap.size))), (9, (.box 24 ((ZN (((R : Nat) : Int))) w.heap.size))), (11, (.box 24 ((ZN ((gz A B : Int))) w.heap.size))), (12, (.box 24 ((ZN (bzX A B)) w.heap.size)))] [(17, (Is (.bool false)))] B5 a5 W5 := S5
  refine wp_stmt_seq [.val ((ZN ((gz A B : Int))) w.heap.size),
      .val ((ZN (bzX A B)) w.heap.size),
      .val (Zx s p n c xs),
      .val ((ZN ((bzX A B) * A)) w.heap.size),
      .val ((ZN (((gz A B : Int)) - ((bzX A B) * A))) w.heap.size),
      .val (Zx t q m d ys),
      .val ((TWO (ZN (fl (((gz A B : Int)) - ((bzX A B) * A)) B)) (IS (.int .i64 0))) w.heap.size),
      .val ((TWO (ZN (fl (((gz A B : Int)) - ((bzX A B) * A)) B)) (IS (.int .i64 0))) w.heap.size),
      .val ((ZN (fl (((gz A B : Int)) - ((bzX A B) * A)) B)) w.heap.size),
      .val (Is (.int .i64 0)),
      .new (.box 24 (Is (.agg #[.bool false, .slice none 0 0]))),
      .put (.inr 10) (.box 24 ((ZN (fl (((gz A B : Int)) - ((bzX A B) * A)) B)) w.heap.size)),
      .val (Is (.int .i64 0))] [.inr 0, .inr 1, .inr 2, .inr 3, .inr 4, .inr 5, .inr 6, .inr 7, .inr 8, .inr 9, .inl 10] [.inr 0] follows S5 rfl (by kernel_rfl) ?_ ?_
  · refine ⟨⟨⟨⟨⟨⟨⟨⟨⟨⟨⟨⟨⟨trivial, ?_⟩, ?_⟩, ?_⟩, ?_⟩, ?_⟩, ?_⟩, ?_⟩, ?_⟩, ?_⟩, ?_⟩, ?_⟩, ?_⟩, ?_⟩
    · exact owe_load rfl (wants_all rfl) rfl (k := 8) rfl (by kernel_rfl) (loads_of strct_int shp_zn) rfl
    · exact owe_load rfl (wants_all rfl) rfl (k := 9) rfl (by kernel_rfl) (loads_of strct_int shp_zn) rfl
    · exact owe_load rfl (wants_all rfl) rfl (k := 0) rfl (by kernel_rfl) (loads_of strct_int shp_zx) rfl
    · exact owe_call2 rfl (wants_all rfl) rfl (opnd_op 1 41 (by kernel_rfl) rfl) (opnd_op 2 42 (by kernel_rfl) rfl) (fresh_zn _) rfl (fun args w => by go_simp) (fun w u v h1 h2 => g_zmul (by omega) w u v ((zn_zv dX) _ _ h1) ((zx_zv' eA (Nat.le_refl _)) _ _ h2))
    · exact owe_call2 rfl (wants_all rfl) rfl (opnd_op 0 40 (by kernel_rfl) rfl) (opnd_op 3 43 (by kernel_rfl) rfl) (fresh_zn _) rfl (fun args w => by go_simp) (fun w u v h1 h2 => g_zsub (by omega) (by omega) w u v ((zn_zv dG) _ _ h1) ((zn_zv (Nat.le_refl _)) _ _ h2))
    · exact owe_load rfl (wants_all rfl) rfl (k := 1) rfl (by kernel_rfl) (loads_of strct_int shp_zx) rfl
    · exact owe_call2 rfl (wants_all rfl) rfl (opnd_op 4 44 (by kernel_rfl) rfl) (opnd_op 5 45 (by kernel_rfl) rfl) (fresh_two (fresh_zn _) (fresh_is _)) rfl (fun args w => by go_simp) (fun w u v h1 h2 => g_zexact2 hB hE (by omega) w u v ((zn_zv (Nat.le_refl _)) _ _ h1) ((zx_zv' eB (Nat.le_refl _)) _ _ h2))
    · exact owe_move rfl (wants_all rfl) (Or.inl rfl) (opnd_op 6 46 (by kernel_rfl) rfl) rfl
    · exact owe_ext2 rfl (wants_all rfl) rfl (opnd_op 7 39 (by kernel_rfl) rfl) (Or.inl ⟨rfl, rfl⟩) rfl
    · exact owe_ext2 rfl (wants_all rfl) rfl (opnd_op 7 39 (by kernel_rfl) rfl) (Or.inr ⟨rfl, rfl⟩) rfl
    · exact owe_new rfl (wants_all rfl) rfl rfl (fun ρ w => alloc_int ρ _ w)
    · exact owe_put 10 rfl (wants_all rfl) rfl (by kernel_rfl) rfl (opnd_op 8 47 (by kernel_rfl) rfl) (stores_of strct_int shp_z0 shp_zn) rfl
    · exact owe_move rfl (wants_all rfl) (Or.inr rfl) (opnd_op 9 48 (by kernel_rfl) rfl) rfl
  intro B6 a6 W6 S6
  replace S6 : Sta w 52 [(2, (.box 24 (Zx s p n c xs))), (3, (.box 24 (Zx t q m d ys))), (4, (.box 24 (Is (.agg #[.bool false, .slice none 0 0])))), (5, (.box 24 (Is (.agg #[.bool false, .slice none 0 0])))), (6, (.box 24 (Is (.agg #[.bool false, .slice none 0 0])))), (7, (.box 24 ((ZN (((D : Nat) : Int))) w.heap.size))), (8, (.box 24 ((ZN (fl A (D : Int))) w.heap.size))), (9, (.box 24 ((ZN (((R : Nat) : Int))) w.heap.size))), (11, (.box 24 ((ZN ((gz A B : Int))) w.heap.size))), (12, (.box 24 ((ZN (bzX A B)) w.heap.size))), (13, (.box 24 ((ZN (fl (((gz A B : Int)) - ((bzX A B) * A)) B)) w.heap.size)))] [(17, (Is (.bool false)))] B6 a6 W6 := S6
  refine wp_stmt_seq [.val ((ZN ((gz A B : Int))) w.heap.size),
      .val ((ZN (bzX A B)) w.heap.size),
      .val ((ZN (fl (((gz A B : Int)) - ((bzX A B) * A)) B)) w.heap.size),
      .put (.inl 4) (.box 24 ((ZN ((gz A B : Int))) w.heap.size)),
      .put (.inl 5) (.box 24 ((ZN (bzX A B)) w.heap.size)),
      .put (.inl 6) (.box 24 ((ZN (fl (((gz A B : Int)) - ((bzX A B) * A)) B)) w.heap.size))] [.inr 0, .inr 1, .inr 2, .inr 3, .inr 4, .inr 5, .inr 6, .inr 7, .inr 8, .inr 9, .inr 10] [.inr 0] follows S6 rfl (by kernel_rfl) ?_ ?_
  · refine ⟨⟨⟨⟨⟨⟨trivial, ?_⟩, ?_⟩, ?_⟩, ?_⟩, ?_⟩, ?_⟩
    · exact owe_load rfl (wants_all rfl) rfl (k := 8) rfl (by kernel_rfl) (loads_of strct_int shp_zn) rfl
    · exact owe_load rfl (wants_all rfl) rfl (k := 9) rfl (by kernel_rfl) (loads_of strct_int shp_zn) rfl
    · exact owe_load rfl (wants_all rfl) rfl (k := 10) rfl (by kernel_rfl) (loads_of strct_int shp_zn) rfl
    · exact owe_set rfl (wants_all rfl) rfl (k := 2) rfl (by kernel_rfl) (opnd_op 0 49 (by kernel_rfl) rfl) (stores_of strct_int shp_z0 shp_zn) rfl
    · exact owe_set rfl (wants_all rfl) rfl (k := 3) rfl (by kernel_rfl) (opnd_op 1 50 (by kernel_rfl) rfl) (stores_of strct_int shp_z0 shp_zn) rfl
    · exact owe_set rfl (wants_all rfl) rfl (k := 4) rfl (by kernel_rfl) (opnd_op 2 51 (by kernel_rfl) rfl) (stores_of strct_int shp_z0 shp_zn) rfl
  intro B7 a7 W7 S7
  replace S7 : Sta w 52 [(2, (.box 24 (Zx s p n c xs))), (3, (.box 24 (Zx t q m d ys))), (4, (.box 24 ((ZN ((gz A B : Int))) w.heap.size))), (5, (.box 24 ((ZN (bzX A B)) w.heap.size))), (6, (.box 24 ((ZN (fl (((gz A B : Int)) - ((bzX A B) * A)) B)) w.heap.size))), (7, (.box 24 ((ZN (((D : Nat) : Int))) w.heap.size))), (8, (.box 24 ((ZN (fl A (D : Int))) w.heap.size))), (9, (.box 24 ((ZN (((R : Nat) : Int))) w.heap.size))), (11, (.box 24 ((ZN ((gz A B : Int))) w.heap.size))), (12, (.box 24 ((ZN (bzX A B)) w.heap.size))), (13, (.box 24 ((ZN (fl (((gz A B : Int)) - ((bzX A B) * A)) B)) w.heap.size)))] [(17, (Is (.bool false)))] B7 a7 W7 := S7
  refine wp_ret ?_
  exact end_three S7 rfl (res_cell S7 2 4 rfl strct_int shp_zn) (res_cell S7 3 5 rfl strct_int shp_zn) (res_cell S7 4 6 rfl strct_int shp_zn)

set_option maxHeartbeats 400000 in
theorem zbez_w0 (w : World) (s t : Bool) (p q : Option Addr) (n c m d : Nat) (xs ys : List Nat) (h : Sl w p n c xs) (h' : Sl w q m d ys) (A B : Int) (eA : sg s (val xs) = A) (eB : sg t (val ys) = B) (hB : B = 0) (hs : n ≤ 67108864) (hs' : m ≤ 67108864) :
    Calls Try.prog 8 #[.agg #[.bool s, .slice p n c], .agg #[.bool t, .slice q m d]] w (Gives (THREE (ZN ((A.natAbs : Int))) (ZN (A.sign)) (IS (.agg #[.bool false, .slice none 0 0]))) w) := by
  have hsg := sign_small A
  refine calls_sta (sl := [(0, (Zx s p n c xs)), (1, (Zx t q m d ys))]) Try.func8 rfl Try.ntmps8 (by simp) (args_cons rfl (zx_has h) (args_cons rfl (zx_has h') args_nil)) ?_
  intro a0 S0
  refine wp_stmt_seq [.new (.box 24 (Zx s p n c xs)),
      .new (.box 24 (Zx t q m d ys)),
      .new (.box 24 (Is (.agg #[.bool false, .slice none 0 0]))),
      .new (.box 24 (Is (.agg #[.bool false, .slice none 0 0]))),
      .new (.box 24 (Is (.agg #[.bool false, .slice none 0 0])))] [.inl 0, .inl 1, .inl 2, .inl 3, .inl 4] [] follows S0 rfl (by kernel_rfl) ?_ ?_
  · refine ⟨⟨⟨⟨⟨trivial, ?_⟩, ?_⟩, ?_⟩, ?_⟩, ?_⟩
    · exact owe_box rfl (wants_all rfl) rfl (opnd_slot 0 0 rfl (by kernel_rfl)) rfl (fun ρ w h => box_int shp_zx ρ _ _ w h)
    · exact owe_box rfl (wants_all rfl) rfl (opnd_slot 1 1 rfl (by kernel_rfl)) rfl (fun ρ w h => box_int shp_zx ρ _ _ w h)
    · exact owe_new rfl (wants_all rfl) rfl rfl (fun ρ w => alloc_int ρ _ w)
    · exact owe_new rfl (wants_all rfl) rfl rfl (fun ρ w => alloc_int ρ _ w)
    · exact owe_new rfl (wants_all rfl) rfl rfl (fun ρ w => alloc_int ρ _ w)
  intro B1 a1 W1 S1
  replace S1 : Sta w 52 [(2, (.box 24 (Zx s p n c xs))), (3, (.box 24 (Zx t q m d ys))), (4, (.box 24 (Is (.agg #[.bool false, .slice none 0 0])))), (5, (.box 24 (Is (.agg #[.bool false, .slice none 0 0])))), (6, (.box 24 (Is (.agg #[.bool false, .slice none 0 0]))))] [] B1 a1 W1 := S1
  refine wp_seq ?_
  refine wp_stmt_seq [.val (Zx t q m d ys),
      .val (Is (.int .i64 (B).sign)),
      .val (Is (.bool true))] [.inr 0, .inr 1, .inr 2, .inr 3, .inr 4] [.inl 2] follows S1 rfl (by kernel_rfl) ?_ ?_
  · refine ⟨⟨⟨trivial, ?_⟩, ?_⟩, ?_⟩
    · exact owe_load rfl (wants_all rfl) rfl (k := 1) rfl (by kernel_rfl) (loads_of strct_int shp_zx) rfl
    · exact owe_call1 rfl (wants_all rfl) rfl (opnd_op 0 15 (by kernel_rfl) rfl) (fresh_is _) rfl (fun args w => by go_simp) (fun w u h1 => g_zsignB (by omega) w u ((zx_zv' eB (Nat.le_refl _)) _ _ h1))
    · exact owe_bin rfl (wants_all rfl) rfl (opnd_op 1 16 (by kernel_rfl) rfl) (opnd_const _) rfl (fun ρ w h1 h2 => by exact run_eql_int_t ρ _ _ _ w _ _ (by rw [hB]; rfl) h1 h2)
  intro B2 a2 W2 S2
  replace S2 : Sta w 52 [(2, (.box 24 (Zx s p n c xs))), (3, (.box 24 (Zx t q m d ys))), (4, (.box 24 (Is (.agg #[.bool false, .slice none 0 0])))), (5, (.box 24 (Is (.agg #[.bool false, .slice none 0 0])))), (6, (.box 24 (Is (.agg #[.bool false, .slice none 0 0]))))] [(17, (Is (.bool true)))] B2 a2 W2 := S2
  refine wp_cond_true (S2.bool 0 17 rfl) ?_
  refine wp_stmt_seq [.val (Zx s p n c xs),
      .val ((ZN (((A).natAbs : Int))) w.heap.size),
      .val (Zx s p n c xs),
      .val (Is (.int .i64 (A).sign)),
      .val ((ZN ((A).sign)) w.heap.size),
      .val (Is (.agg #[.bool false, .slice none 0 0])),
      .put (.inl 4) (.box 24 ((ZN (((A).natAbs : Int))) w.heap.size)),
      .put (.inl 5) (.box 24 ((ZN ((A).sign)) w.heap.size)),
      .put (.inl 6) (.box 24 (Is (.agg #[.bool false, .slice none 0 0])))] [.inr 0, .inr 1, .inr 2, .inr 3, .inr 4] [.inr 0] follows S2 rfl (by kernel_rfl) ?_ ?_
  · refine ⟨⟨⟨⟨⟨⟨⟨⟨⟨trivial, ?_⟩, ?_⟩, ?_⟩, ?_⟩, ?_⟩, ?_⟩, ?_⟩, ?_⟩, ?_⟩
    · exact owe_load rfl (wants_all rfl) rfl (k := 0) rfl (by kernel_rfl) (loads_of strct_int shp_zx) rfl
    · exact owe_call1 rfl (wants_all rfl) rfl (opnd_op 0 18 (by kernel_rfl) rfl) (fresh_zn _) rfl (fun args w => by go_simp) (fun w u h1 => g_zabsB (by omega) w u ((zx_zv' eA (Nat.le_refl _)) _ _ h1))
    · exact owe_load rfl (wants_all rfl) rfl (k := 0) rfl (by kernel_rfl) (loads_of strct_int shp_zx) rfl
    · exact owe_call1 rfl (wants_all rfl) rfl (opnd_op 2 20 (by kernel_rfl) rfl) (fresh_is _) rfl (fun args w => by go_simp) (fun w u h1 => g_zsignB (by omega) w u ((zx_zv' eA (Nat.le_refl _)) _ _ h1))
    · exact owe_call1 rfl (wants_all rfl) rfl (opnd_op 3 21 (by kernel_rfl) rfl) (fresh_zn _) rfl (fun args w => by go_simp) (g_zof (A).sign (by omega) (by omega))
    · exact owe_build_int rfl (wants_all rfl) rfl rfl
    · exact owe_set rfl (wants_all rfl) rfl (k := 2) rfl (by kernel_rfl) (opnd_op 1 19 (by kernel_rfl) rfl) (stores_of strct_int shp_z0 shp_zn) rfl
    · exact owe_set rfl (wants_all rfl) rfl (k := 3) rfl (by kernel_rfl) (opnd_op 4 22 (by kernel_rfl) rfl) (stores_of strct_int shp_z0 shp_zn) rfl
    · exact owe_set rfl (wants_all rfl) rfl (k := 4) rfl (by kernel_rfl) (opnd_op 5 23 (by kernel_rfl) rfl) (stores_of strct_int shp_z0 shp_z0) rfl
  intro B3 a3 W3 S3
  replace S3 : Sta w 52 [(2, (.box 24 (Zx s p n c xs))), (3, (.box 24 (Zx t q m d ys))), (4, (.box 24 ((ZN (((A).natAbs : Int))) w.heap.size))), (5, (.box 24 ((ZN ((A).sign)) w.heap.size))), (6, (.box 24 (Is (.agg #[.bool false, .slice none 0 0]))))] [(17, (Is (.bool true)))] B3 a3 W3 := S3
  refine wp_ret ?_
  refine thenR ?_
  exact end_three S3 rfl (res_cell S3 2 4 rfl strct_int shp_zn) (res_cell S3 3 5 rfl strct_int shp_zn) (res_cell S3 4 6 rfl strct_int shp_z0)

set_option maxHeartbeats 400000 in
theorem zgcd_w (w : World) (s t : Bool) (p q : Option Addr) (n c m d : Nat) (xs ys : List Nat) (h : Sl w p n c xs) (h' : Sl w q m d ys) (hs : n ≤ 67108864) (hs' : m ≤ 67108864) :
    Calls Try.prog 5 #[.agg #[.bool s, .slice p n c], .agg #[.bool t, .slice q m d]] w (Gives (ZN (sg false (Nat.gcd (val xs) (val ys)))) w) := by
  refine calls_sta (sl := [(0, (Zx s p n c xs)), (1, (Zx t q m d ys))]) Try.func5 rfl Try.ntmps5 (by simp) (args_cons rfl (zx_has h) (args_cons rfl (zx_has h') args_nil)) ?_
  intro a0 S0
  refine wp_stmt_seq [.new (.box 24 (Zx s p n c xs)),
      .new (.box 24 (Zx t q m d ys)),
      .new (.box 24 (Is (.agg #[.bool false, .slice none 0 0])))] [.inl 0, .inl 1, .inl 2] [] follows S0 rfl (by kernel_rfl) ?_ ?_
  · refine ⟨⟨⟨trivial, ?_⟩, ?_⟩, ?_⟩
    · exact owe_box rfl (wants_all rfl) rfl (opnd_slot 0 0 rfl (by kernel_rfl)) rfl (fun ρ w h => box_int shp_zx ρ _ _ w h)
    · exact owe_box rfl (wants_all rfl) rfl (opnd_slot 1 1 rfl (by kernel_rfl)) rfl (fun ρ w h => box_int shp_zx ρ _ _ w h)
    · exact owe_new rfl (wants_all rfl) rfl rfl (fun ρ w => alloc_int ρ _ w)
  intro B1 a1 W1 S1
  replace S1 : Sta w 11 [(2, (.box 24 (Zx s p n c xs))), (3, (.box 24 (Zx t q m d ys))), (4, (.box 24 (Is (.agg #[.bool false, .slice none 0 0]))))] [] B1 a1 W1 := S1
  refine wp_stmt_seq [.val (Part a1 2 1),
      .val (Nx p n c xs),
      .val (Part a1 3 1),
      .val (Nx q m d ys),
      .val ((NN (Nat.gcd (val xs) (val ys))) w.heap.size),
      .val ((ZN (sg false (Nat.gcd (val xs) (val ys)))) w.heap.size),
      .put (.inl 4) (.box 24 ((ZN (sg false (Nat.gcd (val xs) (val ys)))) w.heap.size))] [.inr 0, .inr 1, .inr 2] [] follows S1 rfl (by kernel_rfl) ?_ ?_
  · refine ⟨⟨⟨⟨⟨⟨⟨trivial, ?_⟩, ?_⟩, ?_⟩, ?_⟩, ?_⟩, ?_⟩, ?_⟩
    · exact owe_part rfl (wants_all rfl) rfl (k := 0) rfl (by kernel_rfl) rfl (fun ρ w b h => part_int1 ρ _ _ w b 0 h)
    · exact owe_pload rfl (wants_all rfl) rfl (opnd_op 0 5 (by kernel_rfl) rfl) (k := 0) rfl (by kernel_rfl) rfl (fun ρ w b u h1 h2 h3 => pload_mag zx_mag ρ _ _ w b u h1 h2 h3)
    · exact owe_part rfl (wants_all rfl) rfl (k := 1) rfl (by kernel_rfl) rfl (fun ρ w b h => part_int1 ρ _ _ w b 0 h)
    · exact owe_pload rfl (wants_all rfl) rfl (opnd_op 2 7 (by kernel_rfl) rfl) (k := 1) rfl (by kernel_rfl) rfl (fun ρ w b u h1 h2 h3 => pload_mag zx_mag ρ _ _ w b u h1 h2 h3)
    · exact owe_call2 rfl (wants_all rfl) rfl (opnd_op 1 6 (by kernel_rfl) rfl) (opnd_op 3 8 (by kernel_rfl) rfl) (fresh_nn _) rfl (fun args w => by go_simp) (fun w u v h1 h2 => g_ngcd (by omega) (by omega) w u v ((nx_nv (Nat.le_refl _)) _ _ h1) ((nx_nv (Nat.le_refl _)) _ _ h2))
    · exact owe_callF2 rfl (wants_all rfl) rfl (opnd_const _) (opnd_op 4 9 (by kernel_rfl) rfl) rfl (fun args w => by go_simp) g_signed
    · exact owe_set rfl (wants_all rfl) rfl (k := 2) rfl (by kernel_rfl) (opnd_op 5 10 (by kernel_rfl) rfl) (stores_of strct_int shp_z0 shp_zn) rfl
  intro B2 a2 W2 S2
  replace S2 : Sta w 11 [(2, (.box 24 (Zx s p n c xs))), (3, (.box 24 (Zx t q m d ys))), (4, (.box 24 ((ZN (sg false (Nat.gcd (val xs) (val ys)))) w.heap.size)))] [] B2 a2 W2 := S2
  refine wp_ret ?_
  exact end_one S2 rfl (res_cell S2 2 4 rfl strct_int shp_zn)

set_option maxHeartbeats 400000 in
theorem rzgcd_w (w : World) (s t : Bool) (p q : Option Addr) (n c m d : Nat) (xs ys : List Nat) (h : Sl w p n c xs) (h' : Sl w q m d ys) (hs : n ≤ 67108864) (hs' : m ≤ 67108864) :
    Calls Try.prog 7 #[.agg #[.bool s, .slice p n c], .agg #[.bool t, .slice q m d]] w (Gives (ZN (sg false (Nat.gcd (val xs) (val ys)))) w) := by
  have dG : (digs (Nat.gcd (val xs) (val ys))).length ≤ n + m := gcd_len h h'
  refine calls_sta (sl := [(0, (Zx s p n c xs)), (1, (Zx t q m d ys))]) Try.func7 rfl Try.ntmps7 (by simp) (args_cons rfl (zx_has h) (args_cons rfl (zx_has h') args_nil)) ?_
  intro a0 S0
  refine wp_stmt_seq [.new (.box 24 (Zx s p n c xs)),
      .new (.box 24 (Zx t q m d ys)),
      .new (.box 24 (Is (.agg #[.bool false, .slice none 0 0])))] [.inl 0, .inl 1, .inl 2] [] follows S0 rfl (by kernel_rfl) ?_ ?_
  · refine ⟨⟨⟨trivial, ?_⟩, ?_⟩, ?_⟩
    · exact owe_box rfl (wants_all rfl) rfl (opnd_slot 0 0 rfl (by kernel_rfl)) rfl (fun ρ w h => box_int shp_zx ρ _ _ w h)
    · exact owe_box rfl (wants_all rfl) rfl (opnd_slot 1 1 rfl (by kernel_rfl)) rfl (fun ρ w h => box_int shp_zx ρ _ _ w h)
    · exact owe_new rfl (wants_all rfl) rfl rfl (fun ρ w => alloc_int ρ _ w)
  intro B1 a1 W1 S1
  replace S1 : Sta w 11 [(2, (.box 24 (Zx s p n c xs))), (3, (.box 24 (Zx t q m d ys))), (4, (.box 24 (Is (.agg #[.bool false, .slice none 0 0]))))] [] B1 a1 W1 := S1
  refine wp_stmt_seq [.val (Part a1 2 1),
      .val (Nx p n c xs),
      .val (Part a1 3 1),
      .val (Nx q m d ys),
      .val ((NN (Nat.gcd (val xs) (val ys))) w.heap.size),
      .val ((ZN (sg false (Nat.gcd (val xs) (val ys)))) w.heap.size),
      .put (.inl 4) (.box 24 ((ZN (sg false (Nat.gcd (val xs) (val ys)))) w.heap.size))] [.inr 0, .inr 1, .inr 2] [] follows S1 rfl (by kernel_rfl) ?_ ?_
  · refine ⟨⟨⟨⟨⟨⟨⟨trivial, ?_⟩, ?_⟩, ?_⟩, ?_⟩, ?_⟩, ?_⟩, ?_⟩
    · exact owe_part rfl (wants_all rfl) rfl (k := 0) rfl (by kernel_rfl) rfl (fun ρ w b h => part_int1 ρ _ _ w b 0 h)
    · exact owe_pload rfl (wants_all rfl) rfl (opnd_op 0 5 (by kernel_rfl) rfl) (k := 0) rfl (by kernel_rfl) rfl (fun ρ w b u h1 h2 h3 => pload_mag zx_mag ρ _ _ w b u h1 h2 h3)
    · exact owe_part rfl (wants_all rfl) rfl (k := 1) rfl (by kernel_rfl) rfl (fun ρ w b h => part_int1 ρ _ _ w b 0 h)
    · exact owe_pload rfl (wants_all rfl) rfl (opnd_op 2 7 (by kernel_rfl) rfl) (k := 1) rfl (by kernel_rfl) rfl (fun ρ w b u h1 h2 h3 => pload_mag zx_mag ρ _ _ w b u h1 h2 h3)
    · exact owe_call2 rfl (wants_all rfl) rfl (opnd_op 1 6 (by kernel_rfl) rfl) (opnd_op 3 8 (by kernel_rfl) rfl) (fresh_nn _) rfl (fun args w => by go_simp) (fun w u v h1 h2 => g_rgcdB (by omega) (by omega) w u v ((nx_nv (Nat.le_refl _)) _ _ h1) ((nx_nv (Nat.le_refl _)) _ _ h2))
    · exact owe_call2 rfl (wants_all rfl) rfl (opnd_const _) (opnd_op 4 9 (by kernel_rfl) rfl) (fresh_zn _) rfl (fun args w => by go_simp) (fun w u v h1 h2 => g_made (by omega) w u v h1 ((nn_nv dG) _ _ h2))
    · exact owe_set rfl (wants_all rfl) rfl (k := 2) rfl (by kernel_rfl) (opnd_op 5 10 (by kernel_rfl) rfl) (stores_of strct_int shp_z0 shp_zn) rfl
  intro B2 a2 W2 S2
  replace S2 : Sta w 11 [(2, (.box 24 (Zx s p n c xs))), (3, (.box 24 (Zx t q m d ys))), (4, (.box 24 ((ZN (sg false (Nat.gcd (val xs) (val ys)))) w.heap.size)))] [] B2 a2 W2 := S2
  refine wp_ret ?_
  exact end_one S2 rfl (res_cell S2 2 4 rfl strct_int shp_zn)

theorem g_zgcdB {A B : Int} {ka kb : Nat} (hk : ka ≤ 67108864) (hk' : kb ≤ 67108864) : ∀ w u v, Zv A ka u w → Zv B kb v w → Calls Try.prog 5 #[u, v] w (Gives (ZN (gz A B : Int)) w) := by
  rintro w u v ⟨s, p, n, c, xs, rfl, h, rfl, hn⟩ ⟨t, q, m, d, ys, rfl, h', rfl, hm⟩
  unfold gz
  rw [sg_abs, sg_abs]
  exact zgcd_w w s t p q n c m d xs ys h h' (by omega) (by omega)
theorem g_rzgcdB {A B : Int} {ka kb : Nat} (hk : ka ≤ 67108864) (hk' : kb ≤ 67108864) : ∀ w u v, Zv A ka u w → Zv B kb v w → Calls Try.prog 7 #[u, v] w (Gives (ZN (gz A B : Int)) w) := by
  rintro w u v ⟨s, p, n, c, xs, rfl, h, rfl, hn⟩ ⟨t, q, m, d, ys, rfl, h', rfl, hm⟩
  unfold gz
  rw [sg_abs, sg_abs]
  exact rzgcd_w w s t p q n c m d xs ys h h' (by omega) (by omega)
theorem g_zbez {A B : Int} {ka kb : Nat} (hB : B ≠ 0) (hk : ka ≤ 67108864) (hk' : kb ≤ 67108864) : ∀ w u v, Zv A ka u w → Zv B kb v w → Calls Try.prog 8 #[u, v] w (Gives (THREE (ZN (gz A B : Int)) (ZN (bzX A B)) (ZN (fl ((gz A B : Int) - (bzX A B * A)) B))) w) := by
  rintro w u v ⟨s, p, n, c, xs, rfl, h, rfl, hn⟩ ⟨t, q, m, d, ys, rfl, h', rfl, hm⟩
  have hD : ((sg t (val ys)).natAbs : Int) ≠ 0 := by omega
  have rb := (rm_bounds (A := sg s (val xs)) hD).2.1 (by omega)
  exact zbez_w w s t p q n c m d xs ys h h' _ _ rfl rfl hB _ (rm (sg s (val xs)) ((sg t (val ys)).natAbs : Int)).natAbs rfl (by omega) (by omega) (by omega)
theorem g_zbez0 {A B : Int} {ka kb : Nat} (hB : B = 0) (hk : ka ≤ 67108864) (hk' : kb ≤ 67108864) : ∀ w u v, Zv A ka u w → Zv B kb v w → Calls Try.prog 8 #[u, v] w (Gives (THREE (ZN (A.natAbs : Int)) (ZN A.sign) (ZN 0)) w) := by
  rintro w u v ⟨s, p, n, c, xs, rfl, h, rfl, hn⟩ ⟨t, q, m, d, ys, rfl, h', rfl, hm⟩
  refine (zbez_w0 w s t p q n c m d xs ys h h' _ _ rfl rfl hB (by omega) (by omega)).mono ?_
  rintro e w' ⟨v, rfl, hb, x, y, z, rfl, h1, h2, h3⟩
  exact ⟨_, rfl, hb, x, y, z, rfl, h1, h2, zero_zn _ _ h3⟩

end Go.Proofs.Ytblmlhhicpomkaa

/-
  The document's Bezout.
-/
namespace Go.Proofs.Ytblmlhhicpomkaa
open Go Go.RowKit Nt
set_option linter.unusedSimpArgs false
set_option linter.unusedVariables false

set_option maxHeartbeats 1000000 in
theorem rbez_w (w : World) (s t : Bool) (p q : Option Addr) (n c m d : Nat) (xs ys : List Nat) (h : Sl w p n c xs) (h' : Sl w q m d ys) (A B : Int) (eA : sg s (val xs) = A) (eB : sg t (val ys) = B) (hB : B ≠ 0) (hs1 : n ≤ 1048576) (hs2 : m ≤ 1048576) :
    Calls Try.prog 9 #[.agg #[.bool s, .slice p n c], .agg #[.bool t, .slice q m d]] w (Gives (THREE (ZN ((gz A B : Int))) (ZN (bzX A B)) (ZN (fl ((gz A B : Int) - (bzX A B * A)) B))) w) := by
  have dA : (digs A.natAbs).length ≤ n := by rw [← eA]; exact sg_dl h
  have dB : (digs B.natAbs).length ≤ m := by rw [← eB]; exact sg_dl h'
  have rb := rm_bounds (A := A) (B := (B.natAbs : Int)) (by omega)
  have eAq : A = fl A (B.natAbs : Int) * (B.natAbs : Int) + (((rm A (B.natAbs : Int)).natAbs : Nat) : Int) := by have := rb.2.1 (by omega); rw [Int.natAbs_of_nonneg this.1]; exact rb.1
  have bp := bz_all hB rfl eAq
  have hgz : (gz A B : Int) ≠ 0 := by have := gz_ne (A := A) hB; omega
  have hgD : gz A B ≤ B.natAbs := Nat.le_of_dvd (by omega) (Nat.gcd_dvd_right _ _)
  have dG : (digs ((gz A B : Int)).natAbs).length ≤ m := by rw [Int.natAbs_natCast]; exact Nat.le_trans (digs_length_mono hgD) dB
  have hXD : (bzX A B).natAbs ≤ B.natAbs := by
    have h1 := bp.1
    have h2 := bp.2.1
    have h3 : bzX A B * 1 ≤ bzX A B * (gz A B : Int) := Int.mul_le_mul_of_nonneg_left (by omega) h1
    omega
  have dX : (digs (bzX A B).natAbs).length ≤ m := Nat.le_trans (digs_length_mono hXD) dB
  have dXA : (digs (bzX A B * A).natAbs).length ≤ m + n := dl_mul dX dA
  have dS : (digs ((gz A B : Int) - bzX A B * A).natAbs).length ≤ m + n + 1 := dl_sub (Nat.le_trans dG (by omega)) dXA
  have dAbs : (digs (((B.natAbs : Nat) : Int)).natAbs).length ≤ m := by rw [Int.natAbs_natCast]; exact dB
  refine calls_sta (sl := [(0, (Zx s p n c xs)), (1, (Zx t q m d ys))]) Try.func9 rfl Try.ntmps9 (by simp) (args_cons rfl (zx_has h) (args_cons rfl (zx_has h') args_nil)) ?_
  intro a0 S0
  refine wp_stmt_seq [.new (.box 24 (Zx s p n c xs)),
      .new (.box 24 (Zx t q m d ys)),
      .new (.box 24 (Is (.agg #[.bool false, .slice none 0 0]))),
      .new (.box 24 (Is (.agg #[.bool false, .slice none 0 0]))),
      .new (.box 24 (Is (.agg #[.bool false, .slice none 0 0])))] [.inl 0, .inl 1, .inl 2, .inl 3, .inl 4] [] follows S0 rfl (by kernel_rfl) ?_ ?_
  · refine ⟨⟨⟨⟨⟨trivial, ?_⟩, ?_⟩, ?_⟩, ?_⟩, ?_⟩
    · exact owe_box rfl (wants_all rfl) rfl (opnd_slot 0 0 rfl (by kernel_rfl)) rfl (fun ρ w h => box_int shp_zx ρ _ _ w h)
    · exact owe_box rfl (wants_all rfl) rfl (opnd_slot 1 1 rfl (by kernel_rfl)) rfl (fun ρ w h => box_int shp_zx ρ _ _ w h)
    · exact owe_new rfl (wants_all rfl) rfl rfl (fun ρ w => alloc_int ρ _ w)
    · exact owe_new rfl (wants_all rfl) rfl rfl (fun ρ w => alloc_int ρ _ w)
    · exact owe_new rfl (wants_all rfl) rfl rfl (fun ρ w => alloc_int ρ _ w)
  intro B1 a1 W1 S1
  replace S1 : Sta w 82 [(2, (.box 24 (Zx s p n c xs))), (3, (.box 24 (Zx t q m d ys))), (4, (.box 24 (Is (.agg #[.bool false, .slice none 0 0])))), (5, (.box 24 (Is (.agg #[.bool false, .slice none 0 0])))), (6, (.box 24 (Is (.agg #[.bool false, .slice none 0 0]))))] [] B1 a1 W1 := S1
  refine wp_seq ?_
  refine wp_stmt_seq [.val (Zx t q m d ys),
      .val (Is (.int .i64 (B).sign)),
      .val (Is (.bool false))] [.inr 0, .inr 1, .inr 2, .inr 3, .inr 4] [.inl 2] follows S1 rfl (by kernel_rfl) ?_ ?_
  · refine ⟨⟨⟨trivial, ?_⟩, ?_⟩, ?_⟩
    · exact owe_load rfl (wants_all rfl) rfl (k := 1) rfl (by kernel_rfl) (loads_of strct_int shp_zx) rfl
    · exact owe_call1 rfl (wants_all rfl) rfl (opnd_op 0 16 (by kernel_rfl) rfl) (fresh_is _) rfl (fun args w => by go_simp) (fun w u h1 => g_rsign (by omega) w u ((zx_zv' eB (Nat.le_refl _)) _ _ h1))
    · exact owe_bin rfl (wants_all rfl) rfl (opnd_op 1 17 (by kernel_rfl) rfl) (opnd_const _) rfl (fun ρ w h1 h2 => by exact run_eql_int_f ρ _ _ _ w _ _ (by intro e; exact hB (Int.sign_eq_zero_iff_zero.1 e)) h1 h2)
  intro B2 a2 W2 S2
  replace S2 : Sta w 82 [(2, (.box 24 (Zx s p n c xs))), (3, (.box 24 (Zx t q m d ys))), (4, (.box 24 (Is (.agg #[.bool false, .slice none 0 0])))), (5, (.box 24 (Is (.agg #[.bool false, .slice none 0 0])))), (6, (.box 24 (Is (.agg #[.bool false, .slice none 0 0]))))] [(18, (Is (.bool false)))] B2 a2 W2 := S2
  refine wp_cond_false (S2.bool 0 18 rfl) ?_
  refine wp_skip ?_
  refine thenN ?_
  refine wp_stmt_seq [.val (Zx s p n c xs),
      .val (Zx t q m d ys),
      .val ((ZN ((gz A B : Int))) w.heap.size),
      .new (.box 24 (Is (.agg #[.bool false, .slice none 0 0]))),
      .put (.inr 3) (.box 24 ((ZN ((gz A B : Int))) w.heap.size))] [.inr 0, .inr 1, .inr 2, .inr 3, .inr 4, .inl 3] [.inr 0] follows S2 rfl (by kernel_rfl) ?_ ?_
  · refine ⟨⟨⟨⟨⟨trivial, ?_⟩, ?_⟩, ?_⟩, ?_⟩, ?_⟩
    · exact owe_load rfl (wants_all rfl) rfl (k := 0) rfl (by kernel_rfl) (loads_of strct_int shp_zx) rfl
    · exact owe_load rfl (wants_all rfl) rfl (k := 1) rfl (by kernel_rfl) (loads_of strct_int shp_zx) rfl
    · exact owe_call2 rfl (wants_all rfl) rfl (opnd_op 0 25 (by kernel_rfl) rfl) (opnd_op 1 26 (by kernel_rfl) rfl) (fresh_zn _) rfl (fun args w => by go_simp) (fun w u v h1 h2 => g_rzgcdB (by omega) (by omega) w u v ((zx_zv' eA (Nat.le_refl _)) _ _ h1) ((zx_zv' eB (Nat.le_refl _)) _ _ h2))
    · exact owe_new rfl (wants_all rfl) rfl rfl (fun ρ w => alloc_int ρ _ w)
    · exact owe_put 3 rfl (wants_all rfl) rfl (by kernel_rfl) rfl (opnd_op 2 27 (by kernel_rfl) rfl) (stores_of strct_int shp_z0 shp_zn) rfl
  intro B3 a3 W3 S3
  replace S3 : Sta w 82 [(2, (.box 24 (Zx s p n c xs))), (3, (.box 24 (Zx t q m d ys))), (4, (.box 24 (Is (.agg #[.bool false, .slice none 0 0])))), (5, (.box 24 (Is (.agg #[.bool false, .slice none 0 0])))), (6, (.box 24 (Is (.agg #[.bool false, .slice none 0 0])))), (7, (.box 24 ((ZN ((gz A B : Int))) w.heap.size)))] [(18, (Is (.bool false)))] B3 a3 W3 := S3
  refine wp_stmt_seq [.val (Zx s p n c xs),
      .val ((ZN (A)) w.heap.size),
      .val (Zx t q m d ys),
      .val ((ZN (B)) w.heap.size),
      .new (.box 24 (Is (.agg #[.bool false, .slice none 0 0]))),
      .new (.box 24 (Is (.agg #[.bool false, .slice none 0 0]))),
      .put (.inr 4) (.box 24 ((ZN (A)) w.heap.size)),
      .put (.inr 5) (.box 24 ((ZN (B)) w.heap.size))] [.inr 0, .inr 1, .inr 2, .inr 3, .inr 4, .inr 5, .inl 4, .inl 5] [.inr 0] follows S3 rfl (by kernel_rfl) ?_ ?_
  · refine ⟨⟨⟨⟨⟨⟨⟨⟨trivial, ?_⟩, ?_⟩, ?_⟩, ?_⟩, ?_⟩, ?_⟩, ?_⟩, ?_⟩
    · exact owe_load rfl (wants_all rfl) rfl (k := 0) rfl (by kernel_rfl) (loads_of strct_int shp_zx) rfl
    · exact owe_call1 rfl (wants_all rfl) rfl (opnd_op 0 28 (by kernel_rfl) rfl) (fresh_zn _) rfl (fun args w => by go_simp) (fun w u h1 => g_rnormB (by omega) w u ((zx_zv' eA (Nat.le_refl _)) _ _ h1))
    · exact owe_load rfl (wants_all rfl) rfl (k := 1) rfl (by kernel_rfl) (loads_of strct_int shp_zx) rfl
    · exact owe_call1 rfl (wants_all rfl) rfl (opnd_op 2 30 (by kernel_rfl) rfl) (fresh_zn _) rfl (fun args w => by go_simp) (fun w u h1 => g_rnormB (by omega) w u ((zx_zv' eB (Nat.le_refl _)) _ _ h1))
    · exact owe_new rfl (wants_all rfl) rfl rfl (fun ρ w => alloc_int ρ _ w)
    · exact owe_new rfl (wants_all rfl) rfl rfl (fun ρ w => alloc_int ρ _ w)
    · exact owe_put 4 rfl (wants_all rfl) rfl (by kernel_rfl) rfl (opnd_op 1 29 (by kernel_rfl) rfl) (stores_of strct_int shp_z0 shp_zn) rfl
    · exact owe_put 5 rfl (wants_all rfl) rfl (by kernel_rfl) rfl (opnd_op 3 31 (by kernel_rfl) rfl) (stores_of strct_int shp_z0 shp_zn) rfl
  intro B4 a4 W4 S4
  replace S4 : Sta w 82 [(2, (.box 24 (Zx s p n c xs))), (3, (.box 24 (Zx t q m d ys))), (4, (.box 24 (Is (.agg #[.bool false, .slice none 0 0])))), (5, (.box 24 (Is (.agg #[.bool false, .slice none 0 0])))), (6, (.box 24 (Is (.agg #[.bool false, .slice none 0 0])))), (7, (.box 24 ((ZN ((gz A B : Int))) w.heap.size))), (8, (.box 24 ((ZN (A)) w.heap.size))), (9, (.box 24 ((ZN (B)) w.heap.size)))] [(18, (Is (.bool false)))] B4 a4 W4 := S4
  refine wp_stmt_seq [.val ((ZN (1)) w.heap.size),
      .val ((ZN (0)) w.heap.size),
      .new (.box 24 (Is (.agg #[.bool false, .slice none 0 0]))),
      .new (.box 24 (Is (.agg #[.bool false, .slice none 0 0]))),
      .put (.inr 2) (.box 24 ((ZN (1)) w.heap.size)),
      .put (.inr 3) (.box 24 ((ZN (0)) w.heap.size))] [.inr 0, .inr 1, .inr 2, .inr 3, .inr 4, .inr 5, .inr 6, .inr 7, .inl 2, .inl 3] [.inr 0] follows S4 rfl (by kernel_rfl) ?_ ?_
  · refine ⟨⟨⟨⟨⟨⟨trivial, ?_⟩, ?_⟩, ?_⟩, ?_⟩, ?_⟩, ?_⟩
    · exact owe_call1 rfl (wants_all rfl) rfl (opnd_const _) (fresh_zn _) rfl (fun args w => by go_simp) (g_rof 1 (by omega) (by omega))
    · exact owe_call1 rfl (wants_all rfl) rfl (opnd_const _) (fresh_zn _) rfl (fun args w => by go_simp) (g_rof 0 (by omega) (by omega))
    · exact owe_new rfl (wants_all rfl) rfl rfl (fun ρ w => alloc_int ρ _ w)
    · exact owe_new rfl (wants_all rfl) rfl rfl (fun ρ w => alloc_int ρ _ w)
    · exact owe_put 2 rfl (wants_all rfl) rfl (by kernel_rfl) rfl (opnd_op 0 32 (by kernel_rfl) rfl) (stores_of strct_int shp_z0 shp_zn) rfl
    · exact owe_put 3 rfl (wants_all rfl) rfl (by kernel_rfl) rfl (opnd_op 1 33 (by kernel_rfl) rfl) (stores_of strct_int shp_z0 shp_zn) rfl
  intro B5 a5 W5 S5
  replace S5 : Sta w 82 [(2, (.box 24 (Zx s p n c xs))), (3, (.box 24 (Zx t q m d ys))), (4, (.box 24 (Is (.agg #[.bool false, .slice none 0 0])))), (5, (.box 24 (Is (.agg #[.bool false, .slice none 0 0])))), (6, (.box 24 (Is (.agg #[.bool false, .slice none 0 0])))), (7, (.box 24 ((ZN ((gz A B : Int))) w.heap.size))), (8, (.box 24 ((ZN (A)) w.heap.size))), (9, (.box 24 ((ZN (B)) w.heap.size))), (10, (.box 24 ((ZN (1)) w.heap.size))), (11, (.box 24 ((ZN (0)) w.heap.size)))] [(18, (Is (.bool false)))] B5 a5 W5 := S5
  refine wp_seq ?_
  refine wp_block ?_
  refine wp_loop_ghost (fun (gh : Int × Int × Int × Int) a W => (RB A B gh) ∧ ∃ Bs, Sta w 82 [(2, (.box 24 (Zx s p n c xs))), (3, (.box 24 (Zx t q m d ys))), (4, (.box 24 (Is (.agg #[.bool false, .slice none 0 0])))), (5, (.box 24 (Is (.agg #[.bool false, .slice none 0 0])))), (6, (.box 24 (Is (.agg #[.bool false, .slice none 0 0])))), (7, (.box 24 ((ZN ((gz A B : Int))) w.heap.size))), (8, (.box 24 ((ZN (gh.1)) w.heap.size))), (9, (.box 24 ((ZN (gh.2.1)) w.heap.size))), (10, (.box 24 ((ZN (gh.2.2.1)) w.heap.size))), (11, (.box 24 ((ZN (gh.2.2.2)) w.heap.size)))] [] Bs a W) (fun (gh : Int × Int × Int × Int) => gh.2.1.natAbs) ?_ (A, B, 1, 0) ⟨Or.inl rfl, B5, S5.sub [0, 1, 2, 3, 4, 5, 6, 7, 8, 9] []⟩
  rintro gh a6 W6 ⟨hcond, B6, S6⟩
  rcases (show (gh.2.1 = 0 ∧ gh.1 < 0) ∨ (gh.2.1 = 0 ∧ 0 < gh.1) ∨ gh.2.1 ≠ 0 from by by_cases e : gh.2.1 = 0; (obtain ⟨_, _, _, l3, _⟩ := hcond.last hB e; rcases l3 with l | l; exact .inl ⟨e, l⟩; exact .inr (.inl ⟨e, l⟩)); exact .inr (.inr e)) with hs | hs | hs
  · have sz := hcond.size hB
    have dr : (digs gh.1.natAbs).length ≤ n + m + 1 := Nat.le_trans (digs_length_mono sz.1) (Nat.le_trans (digs_add_lenB (k := n + m) (by omega) (by omega)) (by omega))
    have ds : (digs gh.2.1.natAbs).length ≤ m := Nat.le_trans (digs_length_mono sz.2.1) dB
    have dx : (digs gh.2.2.1.natAbs).length ≤ m := Nat.le_trans (digs_length_mono sz.2.2.1) dB
    have dy : (digs gh.2.2.2.natAbs).length ≤ m := Nat.le_trans (digs_length_mono sz.2.2.2) dB
    obtain ⟨Y, l1, l2, l3, l4⟩ := hcond.last hB hs.1
    rw [if_pos hs.2] at l4
    have hYZ : (Y : Int) ≠ 0 := by omega
    have eY : fl ((B.natAbs : Nat) : Int) (gz A B : Int) = (Y : Int) := fl_ex (gz_ne hB) l1
    have dY : (digs ((Y : Int)).natAbs).length ≤ m := by
      rw [Int.natAbs_natCast]
      refine Nat.le_trans (digs_length_mono ?_) dB
      have := Nat.le_mul_of_pos_left Y (Nat.pos_of_ne_zero (gz_ne (A := A) hB))
      omega
    have dxn : (digs (-gh.2.2.1).natAbs).length ≤ m := by rw [Int.natAbs_neg]; exact dx
    refine wp_seq ?_
    refine wp_stmt_seq [.val ((ZN (gh.2.1)) w.heap.size),
      .val (Is (.int .i64 (gh.2.1).sign)),
      .val (Is (.bool false))] [.inr 0, .inr 1, .inr 2, .inr 3, .inr 4, .inr 5, .inr 6, .inr 7, .inr 8, .inr 9] [.inl 2] follows S6 rfl (by kernel_rfl) ?_ ?_
    · refine ⟨⟨⟨trivial, ?_⟩, ?_⟩, ?_⟩
      · exact owe_load rfl (wants_all rfl) rfl (k := 7) rfl (by kernel_rfl) (loads_of strct_int shp_zn) rfl
      · exact owe_call1 rfl (wants_all rfl) rfl (opnd_op 0 34 (by kernel_rfl) rfl) (fresh_is _) rfl (fun args w => by go_simp) (fun w u h1 => g_rsign (by omega) w u ((zn_zv ds) _ _ h1))
      · exact owe_bin rfl (wants_all rfl) rfl (opnd_op 1 35 (by kernel_rfl) rfl) (opnd_const _) rfl (fun ρ w h1 h2 => by exact run_neq_int_f ρ _ _ _ w _ _ (by rw [hs.1]; rfl) h1 h2)
    intro B7 a7 W7 S7
    replace S7 : Sta w 82 [(2, (.box 24 (Zx s p n c xs))), (3, (.box 24 (Zx t q m d ys))), (4, (.box 24 (Is (.agg #[.bool false, .slice none 0 0])))), (5, (.box 24 (Is (.agg #[.bool false, .slice none 0 0])))), (6, (.box 24 (Is (.agg #[.bool false, .slice none 0 0])))), (7, (.box 24 ((ZN ((gz A B : Int))) w.heap.size))), (8, (.box 24 ((ZN (gh.1)) w.heap.size))), (9, (.box 24 ((ZN (gh.2.1)) w.heap.size))), (10, (.box 24 ((ZN (gh.2.2.1)) w.heap.size))), (11, (.box 24 ((ZN (gh.2.2.2)) w.heap.size)))] [(36, (Is (.bool false)))] B7 a7 W7 := S7
    refine wp_cond_false (S7.bool 0 36 rfl) ?_
    refine wp_exit ?_
    refine thenX ?_
    refine thenX ?_
    refine inBlkE ?_
    refine thenN ?_
    refine wp_seq ?_
    refine wp_stmt_seq [.val ((ZN (gh.1)) w.heap.size),
      .val (Is (.int .i64 (gh.1).sign)),
      .val (Is (.bool true))] [.inr 0, .inr 1, .inr 2, .inr 3, .inr 4, .inr 5, .inr 6, .inr 7, .inr 8, .inr 9] [.inl 2, .inr 0] follows S7 rfl (by kernel_rfl) ?_ ?_
    · refine ⟨⟨⟨trivial, ?_⟩, ?_⟩, ?_⟩
      · exact owe_load rfl (wants_all rfl) rfl (k := 6) rfl (by kernel_rfl) (loads_of strct_int shp_zn) rfl
      · exact owe_call1 rfl (wants_all rfl) rfl (opnd_op 0 51 (by kernel_rfl) rfl) (fresh_is _) rfl (fun args w => by go_simp) (fun w u h1 => g_rsign (by omega) w u ((zn_zv dr) _ _ h1))
      · exact owe_bin rfl (wants_all rfl) rfl (opnd_op 1 52 (by kernel_rfl) rfl) (opnd_const _) rfl (fun ρ w h1 h2 => by exact run_lss_int_t ρ _ _ _ w _ _ (sgn_neg_of hs.2) h1 h2)
    intro B8 a8 W8 S8
    replace S8 : Sta w 82 [(2, (.box 24 (Zx s p n c xs))), (3, (.box 24 (Zx t q m d ys))), (4, (.box 24 (Is (.agg #[.bool false, .slice none 0 0])))), (5, (.box 24 (Is (.agg #[.bool false, .slice none 0 0])))), (6, (.box 24 (Is (.agg #[.bool false, .slice none 0 0])))), (7, (.box 24 ((ZN ((gz A B : Int))) w.heap.size))), (8, (.box 24 ((ZN (gh.1)) w.heap.size))), (9, (.box 24 ((ZN (gh.2.1)) w.heap.size))), (10, (.box 24 ((ZN (gh.2.2.1)) w.heap.size))), (11, (.box 24 ((ZN (gh.2.2.2)) w.heap.size)))] [(53, (Is (.bool true))), (36, (Is (.bool false)))] B8 a8 W8 := S8
    refine wp_cond_true (S8.bool 0 53 rfl) ?_
    refine wp_stmt [.val ((ZN (gh.2.2.1)) w.heap.size),
      .val ((ZN (-(gh.2.2.1))) w.heap.size),
      .put (.inl 10) (.box 24 ((ZN (-(gh.2.2.1))) w.heap.size))] [.inr 0, .inr 1, .inr 2, .inr 3, .inr 4, .inr 5, .inr 6, .inr 7, .inr 8, .inr 9] [.inr 0, .inr 1] follows S8 rfl (by kernel_rfl) ?_ ?_
    · refine ⟨⟨⟨trivial, ?_⟩, ?_⟩, ?_⟩
      · exact owe_load rfl (wants_all rfl) rfl (k := 8) rfl (by kernel_rfl) (loads_of strct_int shp_zn) rfl
      · exact owe_call1 rfl (wants_all rfl) rfl (opnd_op 0 54 (by kernel_rfl) rfl) (fresh_zn _) rfl (fun args w => by go_simp) (fun w u h1 => g_rneg (by omega) w u ((zn_zv dx) _ _ h1))
      · exact owe_set rfl (wants_all rfl) rfl (k := 8) rfl (by kernel_rfl) (opnd_op 1 55 (by kernel_rfl) rfl) (stores_of strct_int shp_zn shp_zn) rfl
    intro B9 a9 W9 S9
    replace S9 : Sta w 82 [(2, (.box 24 (Zx s p n c xs))), (3, (.box 24 (Zx t q m d ys))), (4, (.box 24 (Is (.agg #[.bool false, .slice none 0 0])))), (5, (.box 24 (Is (.agg #[.bool false, .slice none 0 0])))), (6, (.box 24 (Is (.agg #[.bool false, .slice none 0 0])))), (7, (.box 24 ((ZN ((gz A B : Int))) w.heap.size))), (8, (.box 24 ((ZN (gh.1)) w.heap.size))), (9, (.box 24 ((ZN (gh.2.1)) w.heap.size))), (10, (.box 24 ((ZN (-(gh.2.2.1))) w.heap.size))), (11, (.box 24 ((ZN (gh.2.2.2)) w.heap.size)))] [(53, (Is (.bool true))), (36, (Is (.bool false)))] B9 a9 W9 := S9
    refine thenN ?_
    refine wp_stmt_seq [.val (Zx t q m d ys),
      .val ((ZN (((B).natAbs : Int))) w.heap.size),
      .val ((ZN ((gz A B : Int))) w.heap.size),
      .val ((TWO (ZN ((Y : Int))) (ZN (rm ((B).natAbs : Int) (gz A B : Int)))) w.heap.size),
      .val ((TWO (ZN ((Y : Int))) (ZN (rm ((B).natAbs : Int) (gz A B : Int)))) w.heap.size),
      .val ((ZN ((Y : Int))) w.heap.size),
      .val ((ZN (rm ((B).natAbs : Int) (gz A B : Int))) w.heap.size),
      .new (.box 24 (Is (.agg #[.bool false, .slice none 0 0]))),
      .new (.box 24 (Is (.agg #[.bool false, .slice none 0 0]))),
      .put (.inr 7) (.box 24 ((ZN ((Y : Int))) w.heap.size)),
      .put (.inr 8) (.box 24 ((ZN (rm ((B).natAbs : Int) (gz A B : Int))) w.heap.size))] [.inr 0, .inr 1, .inr 2, .inr 3, .inr 4, .inr 5, .inr 6, .inr 7, .inr 8, .inr 9, .inl 7, .inl 8] [.inr 0, .inr 1] follows S9 rfl (by kernel_rfl) ?_ ?_
    · refine ⟨⟨⟨⟨⟨⟨⟨⟨⟨⟨⟨trivial, ?_⟩, ?_⟩, ?_⟩, ?_⟩, ?_⟩, ?_⟩, ?_⟩, ?_⟩, ?_⟩, ?_⟩, ?_⟩
      · exact owe_load rfl (wants_all rfl) rfl (k := 1) rfl (by kernel_rfl) (loads_of strct_int shp_zx) rfl
      · exact owe_call1 rfl (wants_all rfl) rfl (opnd_op 0 57 (by kernel_rfl) rfl) (fresh_zn _) rfl (fun args w => by go_simp) (fun w u h1 => g_rabsB (by omega) w u ((zx_zv' eB (Nat.le_refl _)) _ _ h1))
      · exact owe_load rfl (wants_all rfl) rfl (k := 5) rfl (by kernel_rfl) (loads_of strct_int shp_zn) rfl
      · exact owe_call2 rfl (wants_all rfl) rfl (opnd_op 1 58 (by kernel_rfl) rfl) (opnd_op 2 59 (by kernel_rfl) rfl) (fresh_two (fresh_zn _) (fresh_zn _)) rfl (fun args w => by go_simp) (fun w u0 u1 h0 h1 => Gives.cast ((fun w u v h1 h2 => g_rfloor hgz (by omega) w u v ((zn_zv dAbs) _ _ h1) ((zn_zv dG) _ _ h2)) w u0 u1 h0 h1) (by rw [eY]))
      · exact owe_move rfl (wants_all rfl) (Or.inl rfl) (opnd_op 3 60 (by kernel_rfl) rfl) rfl
      · exact owe_ext2 rfl (wants_all rfl) rfl (opnd_op 4 56 (by kernel_rfl) rfl) (Or.inl ⟨rfl, rfl⟩) rfl
      · exact owe_ext2 rfl (wants_all rfl) rfl (opnd_op 4 56 (by kernel_rfl) rfl) (Or.inr ⟨rfl, rfl⟩) rfl
      · exact owe_new rfl (wants_all rfl) rfl rfl (fun ρ w => alloc_int ρ _ w)
      · exact owe_new rfl (wants_all rfl) rfl rfl (fun ρ w => alloc_int ρ _ w)
      · exact owe_put 7 rfl (wants_all rfl) rfl (by kernel_rfl) rfl (opnd_op 5 61 (by kernel_rfl) rfl) (stores_of strct_int shp_z0 shp_zn) rfl
      · exact owe_put 8 rfl (wants_all rfl) rfl (by kernel_rfl) rfl (opnd_op 6 62 (by kernel_rfl) rfl) (stores_of strct_int shp_z0 shp_zn) rfl
    intro B10 a10 W10 S10
    replace S10 : Sta w 82 [(2, (.box 24 (Zx s p n c xs))), (3, (.box 24 (Zx t q m d ys))), (4, (.box 24 (Is (.agg #[.bool false, .slice none 0 0])))), (5, (.box 24 (Is (.agg #[.bool false, .slice none 0 0])))), (6, (.box 24 (Is (.agg #[.bool false, .slice none 0 0])))), (7, (.box 24 ((ZN ((gz A B : Int))) w.heap.size))), (8, (.box 24 ((ZN (gh.1)) w.heap.size))), (9, (.box 24 ((ZN (gh.2.1)) w.heap.size))), (10, (.box 24 ((ZN (-(gh.2.2.1))) w.heap.size))), (11, (.box 24 ((ZN (gh.2.2.2)) w.heap.size))), (14, (.box 24 ((ZN ((Y : Int))) w.heap.size))), (15, (.box 24 ((ZN (rm ((B).natAbs : Int) (gz A B : Int))) w.heap.size)))] [(53, (Is (.bool true))), (36, (Is (.bool false)))] B10 a10 W10 := S10
    refine wp_stmt_seq [.val ((ZN (-(gh.2.2.1))) w.heap.size),
      .val ((ZN ((Y : Int))) w.heap.size),
      .val ((TWO (ZN (fl (-(gh.2.2.1)) (Y : Int))) (ZN (bzX A B))) w.heap.size),
      .val ((TWO (ZN (fl (-(gh.2.2.1)) (Y : Int))) (ZN (bzX A B))) w.heap.size),
      .val ((ZN (fl (-(gh.2.2.1)) (Y : Int))) w.heap.size),
      .val ((ZN (bzX A B)) w.heap.size),
      .put (.inl 10) (.box 24 ((ZN (bzX A B)) w.heap.size))] [.inr 0, .inr 1, .inr 2, .inr 3, .inr 4, .inr 5, .inr 6, .inr 7, .inr 8, .inr 9, .inr 10, .inr 11] [.inr 0, .inr 1] follows S10 rfl (by kernel_rfl) ?_ ?_
    · refine ⟨⟨⟨⟨⟨⟨⟨trivial, ?_⟩, ?_⟩, ?_⟩, ?_⟩, ?_⟩, ?_⟩, ?_⟩
      · exact owe_load rfl (wants_all rfl) rfl (k := 8) rfl (by kernel_rfl) (loads_of strct_int shp_zn) rfl
      · exact owe_load rfl (wants_all rfl) rfl (k := 10) rfl (by kernel_rfl) (loads_of strct_int shp_zn) rfl
      · exact owe_call2 rfl (wants_all rfl) rfl (opnd_op 0 64 (by kernel_rfl) rfl) (opnd_op 1 65 (by kernel_rfl) rfl) (fresh_two (fresh_zn _) (fresh_zn _)) rfl (fun args w => by go_simp) (fun w u0 u1 h0 h1 => Gives.cast ((fun w u v h1 h2 => g_rfloor hYZ (by omega) w u v ((zn_zv dxn) _ _ h1) ((zn_zv dY) _ _ h2)) w u0 u1 h0 h1) (by rw [l4]))
      · exact owe_move rfl (wants_all rfl) (Or.inl rfl) (opnd_op 2 66 (by kernel_rfl) rfl) rfl
      · exact owe_ext2 rfl (wants_all rfl) rfl (opnd_op 3 63 (by kernel_rfl) rfl) (Or.inl ⟨rfl, rfl⟩) rfl
      · exact owe_ext2 rfl (wants_all rfl) rfl (opnd_op 3 63 (by kernel_rfl) rfl) (Or.inr ⟨rfl, rfl⟩) rfl
      · exact owe_set rfl (wants_all rfl) rfl (k := 8) rfl (by kernel_rfl) (opnd_op 5 68 (by kernel_rfl) rfl) (stores_of strct_int shp_zn shp_zn) rfl
    intro B11 a11 W11 S11
    replace S11 : Sta w 82 [(2, (.box 24 (Zx s p n c xs))), (3, (.box 24 (Zx t q m d ys))), (4, (.box 24 (Is (.agg #[.bool false, .slice none 0 0])))), (5, (.box 24 (Is (.agg #[.bool false, .slice none 0 0])))), (6, (.box 24 (Is (.agg #[.bool false, .slice none 0 0])))), (7, (.box 24 ((ZN ((gz A B : Int))) w.heap.size))), (8, (.box 24 ((ZN (gh.1)) w.heap.size))), (9, (.box 24 ((ZN (gh.2.1)) w.heap.size))), (10, (.box 24 ((ZN (bzX A B)) w.heap.size))), (11, (.box 24 ((ZN (gh.2.2.2)) w.heap.size))), (14, (.box 24 ((ZN ((Y : Int))) w.heap.size))), (15, (.box 24 ((ZN (rm ((B).natAbs : Int) (gz A B : Int))) w.heap.size)))] [(53, (Is (.bool true))), (36, (Is (.bool false)))] B11 a11 W11 := S11
    refine wp_stmt_seq [.val ((ZN ((gz A B : Int))) w.heap.size),
      .val ((ZN (bzX A B)) w.heap.size),
      .val (Zx s p n c xs),
      .val ((ZN ((bzX A B) * A)) w.heap.size),
      .val ((ZN (((gz A B : Int)) - ((bzX A B) * A))) w.heap.size),
      .val (Zx t q m d ys),
      .val ((TWO (ZN (fl (((gz A B : Int)) - ((bzX A B) * A)) B)) (ZN (rm (((gz A B : Int)) - ((bzX A B) * A)) B))) w.heap.size),
      .val ((TWO (ZN (fl (((gz A B : Int)) - ((bzX A B) * A)) B)) (ZN (rm (((gz A B : Int)) - ((bzX A B) * A)) B))) w.heap.size),
      .val ((ZN (fl (((gz A B : Int)) - ((bzX A B) * A)) B)) w.heap.size),
      .val ((ZN (rm (((gz A B : Int)) - ((bzX A B) * A)) B)) w.heap.size),
      .put (.inl 11) (.box 24 ((ZN (fl (((gz A B : Int)) - ((bzX A B) * A)) B)) w.heap.size))] [.inr 0, .inr 1, .inr 2, .inr 3, .inr 4, .inr 5, .inr 6, .inr 7, .inr 8, .inr 9, .inr 10, .inr 11] [.inr 0, .inr 1] follows S11 rfl (by kernel_rfl) ?_ ?_
    · refine ⟨⟨⟨⟨⟨⟨⟨⟨⟨⟨⟨trivial, ?_⟩, ?_⟩, ?_⟩, ?_⟩, ?_⟩, ?_⟩, ?_⟩, ?_⟩, ?_⟩, ?_⟩, ?_⟩
      · exact owe_load rfl (wants_all rfl) rfl (k := 5) rfl (by kernel_rfl) (loads_of strct_int shp_zn) rfl
      · exact owe_load rfl (wants_all rfl) rfl (k := 8) rfl (by kernel_rfl) (loads_of strct_int shp_zn) rfl
      · exact owe_load rfl (wants_all rfl) rfl (k := 0) rfl (by kernel_rfl) (loads_of strct_int shp_zx) rfl
      · exact owe_call2 rfl (wants_all rfl) rfl (opnd_op 1 71 (by kernel_rfl) rfl) (opnd_op 2 72 (by kernel_rfl) rfl) (fresh_zn _) rfl (fun args w => by go_simp) (fun w u v h1 h2 => g_rmul (by omega) w u v ((zn_zv dX) _ _ h1) ((zx_zv' eA (Nat.le_refl _)) _ _ h2))
      · exact owe_call2 rfl (wants_all rfl) rfl (opnd_op 0 70 (by kernel_rfl) rfl) (opnd_op 3 73 (by kernel_rfl) rfl) (fresh_zn _) rfl (fun args w => by go_simp) (fun w u v h1 h2 => g_rsub (by omega) (by omega) w u v ((zn_zv dG) _ _ h1) ((zn_zv dXA) _ _ h2))
      · exact owe_load rfl (wants_all rfl) rfl (k := 1) rfl (by kernel_rfl) (loads_of strct_int shp_zx) rfl
      · exact owe_call2 rfl (wants_all rfl) rfl (opnd_op 4 74 (by kernel_rfl) rfl) (opnd_op 5 75 (by kernel_rfl) rfl) (fresh_two (fresh_zn _) (fresh_zn _)) rfl (fun args w => by go_simp) (fun w u v h1 h2 => g_rfloor hB (by omega) w u v ((zn_zv (Nat.le_refl _)) _ _ h1) ((zx_zv' eB (Nat.le_refl _)) _ _ h2))
      · exact owe_move rfl (wants_all rfl) (Or.inl rfl) (opnd_op 6 76 (by kernel_rfl) rfl) rfl
      · exact owe_ext2 rfl (wants_all rfl) rfl (opnd_op 7 69 (by kernel_rfl) rfl) (Or.inl ⟨rfl, rfl⟩) rfl
      · exact owe_ext2 rfl (wants_all rfl) rfl (opnd_op 7 69 (by kernel_rfl) rfl) (Or.inr ⟨rfl, rfl⟩) rfl
      · exact owe_set rfl (wants_all rfl) rfl (k := 9) rfl (by kernel_rfl) (opnd_op 8 77 (by kernel_rfl) rfl) (stores_of strct_int shp_zn shp_zn) rfl
    intro B12 a12 W12 S12
    replace S12 : Sta w 82 [(2, (.box 24 (Zx s p n c xs))), (3, (.box 24 (Zx t q m d ys))), (4, (.box 24 (Is (.agg #[.bool false, .slice none 0 0])))), (5, (.box 24 (Is (.agg #[.bool false, .slice none 0 0])))), (6, (.box 24 (Is (.agg #[.bool false, .slice none 0 0])))), (7, (.box 24 ((ZN ((gz A B : Int))) w.heap.size))), (8, (.box 24 ((ZN (gh.1)) w.heap.size))), (9, (.box 24 ((ZN (gh.2.1)) w.heap.size))), (10, (.box 24 ((ZN (bzX A B)) w.heap.size))), (11, (.box 24 ((ZN (fl (((gz A B : Int)) - ((bzX A B) * A)) B)) w.heap.size))), (14, (.box 24 ((ZN ((Y : Int))) w.heap.size))), (15, (.box 24 ((ZN (rm ((B).natAbs : Int) (gz A B : Int))) w.heap.size)))] [(53, (Is (.bool true))), (36, (Is (.bool false)))] B12 a12 W12 := S12
    refine wp_stmt_seq [.val ((ZN ((gz A B : Int))) w.heap.size),
      .val ((ZN (bzX A B)) w.heap.size),
      .val ((ZN (fl (((gz A B : Int)) - ((bzX A B) * A)) B)) w.heap.size),
      .put (.inl 4) (.box 24 ((ZN ((gz A B : Int))) w.heap.size)),
      .put (.inl 5) (.box 24 ((ZN (bzX A B)) w.heap.size)),
      .put (.inl 6) (.box 24 ((ZN (fl (((gz A B : Int)) - ((bzX A B) * A)) B)) w.heap.size))] [.inr 0, .inr 1, .inr 2, .inr 3, .inr 4, .inr 5, .inr 6, .inr 7, .inr 8, .inr 9, .inr 10, .inr 11] [.inr 0, .inr 1] follows S12 rfl (by kernel_rfl) ?_ ?_
    · refine ⟨⟨⟨⟨⟨⟨trivial, ?_⟩, ?_⟩, ?_⟩, ?_⟩, ?_⟩, ?_⟩
      · exact owe_load rfl (wants_all rfl) rfl (k := 5) rfl (by kernel_rfl) (loads_of strct_int shp_zn) rfl
      · exact owe_load rfl (wants_all rfl) rfl (k := 8) rfl (by kernel_rfl) (loads_of strct_int shp_zn) rfl
      · exact owe_load rfl (wants_all rfl) rfl (k := 9) rfl (by kernel_rfl) (loads_of strct_int shp_zn) rfl
      · exact owe_set rfl (wants_all rfl) rfl (k := 2) rfl (by kernel_rfl) (opnd_op 0 79 (by kernel_rfl) rfl) (stores_of strct_int shp_z0 shp_zn) rfl
      · exact owe_set rfl (wants_all rfl) rfl (k := 3) rfl (by kernel_rfl) (opnd_op 1 80 (by kernel_rfl) rfl) (stores_of strct_int shp_z0 shp_zn) rfl
      · exact owe_set rfl (wants_all rfl) rfl (k := 4) rfl (by kernel_rfl) (opnd_op 2 81 (by kernel_rfl) rfl) (stores_of strct_int shp_z0 shp_zn) rfl
    intro B13 a13 W13 S13
    replace S13 : Sta w 82 [(2, (.box 24 (Zx s p n c xs))), (3, (.box 24 (Zx t q m d ys))), (4, (.box 24 ((ZN ((gz A B : Int))) w.heap.size))), (5, (.box 24 ((ZN (bzX A B)) w.heap.size))), (6, (.box 24 ((ZN (fl (((gz A B : Int)) - ((bzX A B) * A)) B)) w.heap.size))), (7, (.box 24 ((ZN ((gz A B : Int))) w.heap.size))), (8, (.box 24 ((ZN (gh.1)) w.heap.size))), (9, (.box 24 ((ZN (gh.2.1)) w.heap.size))), (10, (.box 24 ((ZN (bzX A B)) w.heap.size))), (11, (.box 24 ((ZN (fl (((gz A B : Int)) - ((bzX A B) * A)) B)) w.heap.size))), (14, (.box 24 ((ZN ((Y : Int))) w.heap.size))), (15, (.box 24 ((ZN (rm ((B).natAbs : Int) (gz A B : Int))) w.heap.size)))] [(53, (Is (.bool true))), (36, (Is (.bool false)))] B13 a13 W13 := S13
    refine wp_ret ?_
    exact end_three S13 rfl (res_cell S13 2 4 rfl strct_int shp_zn) (res_cell S13 3 5 rfl strct_int shp_zn) (res_cell S13 4 6 rfl strct_int shp_zn)
  · have sz := hcond.size hB
    have dr : (digs gh.1.natAbs).length ≤ n + m + 1 := Nat.le_trans (digs_length_mono sz.1) (Nat.le_trans (digs_add_lenB (k := n + m) (by omega) (by omega)) (by omega))
    have ds : (digs gh.2.1.natAbs).length ≤ m := Nat.le_trans (digs_length_mono sz.2.1) dB
    have dx : (digs gh.2.2.1.natAbs).length ≤ m := Nat.le_trans (digs_length_mono sz.2.2.1) dB
    have dy : (digs gh.2.2.2.natAbs).length ≤ m := Nat.le_trans (digs_length_mono sz.2.2.2) dB
    obtain ⟨Y, l1, l2, l3, l4⟩ := hcond.last hB hs.1
    rw [if_neg (by omega)] at l4
    have hYZ : (Y : Int) ≠ 0 := by omega
    have eY : fl ((B.natAbs : Nat) : Int) (gz A B : Int) = (Y : Int) := fl_ex (gz_ne hB) l1
    have dY : (digs ((Y : Int)).natAbs).length ≤ m := by
      rw [Int.natAbs_natCast]
      refine Nat.le_trans (digs_length_mono ?_) dB
      have := Nat.le_mul_of_pos_left Y (Nat.pos_of_ne_zero (gz_ne (A := A) hB))
      omega
    have dxn : (digs (-gh.2.2.1).natAbs).length ≤ m := by rw [Int.natAbs_neg]; exact dx
    refine wp_seq ?_
    refine wp_stmt_seq [.val ((ZN (gh.2.1)) w.heap.size),
      .val (Is (.int .i64 (gh.2.1).sign)),
      .val (Is (.bool false))] [.inr 0, .inr 1, .inr 2, .inr 3, .inr 4, .inr 5, .inr 6, .inr 7, .inr 8, .inr 9] [.inl 2] follows S6 rfl (by kernel_rfl) ?_ ?_
    · refine ⟨⟨⟨trivial, ?_⟩, ?_⟩, ?_⟩
      · exact owe_load rfl (wants_all rfl) rfl (k := 7) rfl (by kernel_rfl) (loads_of strct_int shp_zn) rfl
      · exact owe_call1 rfl (wants_all rfl) rfl (opnd_op 0 34 (by kernel_rfl) rfl) (fresh_is _) rfl (fun args w => by go_simp) (fun w u h1 => g_rsign (by omega) w u ((zn_zv ds) _ _ h1))
      · exact owe_bin rfl (wants_all rfl) rfl (opnd_op 1 35 (by kernel_rfl) rfl) (opnd_const _) rfl (fun ρ w h1 h2 => by exact run_neq_int_f ρ _ _ _ w _ _ (by rw [hs.1]; rfl) h1 h2)
    intro B7 a7 W7 S7
    replace S7 : Sta w 82 [(2, (.box 24 (Zx s p n c xs))), (3, (.box 24 (Zx t q m d ys))), (4, (.box 24 (Is (.agg #[.bool false, .slice none 0 0])))), (5, (.box 24 (Is (.agg #[.bool false, .slice none 0 0])))), (6, (.box 24 (Is (.agg #[.bool false, .slice none 0 0])))), (7, (.box 24 ((ZN ((gz A B : Int))) w.heap.size))), (8, (.box 24 ((ZN (gh.1)) w.heap.size))), (9, (.box 24 ((ZN (gh.2.1)) w.heap.size))), (10, (.box 24 ((ZN (gh.2.2.1)) w.heap.size))), (11, (.box 24 ((ZN (gh.2.2.2)) w.heap.size)))] [(36, (Is (.bool false)))] B7 a7 W7 := S7
    refine wp_cond_false (S7.bool 0 36 rfl) ?_
    refine wp_exit ?_
    refine thenX ?_
    refine thenX ?_
    refine inBlkE ?_
    refine thenN ?_
    refine wp_seq ?_
    refine wp_stmt_seq [.val ((ZN (gh.1)) w.heap.size),
      .val (Is (.int .i64 (gh.1).sign)),
      .val (Is (.bool false))] [.inr 0, .inr 1, .inr 2, .inr 3, .inr 4, .inr 5, .inr 6, .inr 7, .inr 8, .inr 9] [.inl 2, .inr 0] follows S7 rfl (by kernel_rfl) ?_ ?_
    · refine ⟨⟨⟨trivial, ?_⟩, ?_⟩, ?_⟩
      · exact owe_load rfl (wants_all rfl) rfl (k := 6) rfl (by kernel_rfl) (loads_of strct_int shp_zn) rfl
      · exact owe_call1 rfl (wants_all rfl) rfl (opnd_op 0 51 (by kernel_rfl) rfl) (fresh_is _) rfl (fun args w => by go_simp) (fun w u h1 => g_rsign (by omega) w u ((zn_zv dr) _ _ h1))
      · exact owe_bin rfl (wants_all rfl) rfl (opnd_op 1 52 (by kernel_rfl) rfl) (opnd_const _) rfl (fun ρ w h1 h2 => by exact run_lss_int_f ρ _ _ _ w _ _ (sgn_pos_of hs.2) h1 h2)
    intro B8 a8 W8 S8
    replace S8 : Sta w 82 [(2, (.box 24 (Zx s p n c xs))), (3, (.box 24 (Zx t q m d ys))), (4, (.box 24 (Is (.agg #[.bool false, .slice none 0 0])))), (5, (.box 24 (Is (.agg #[.bool false, .slice none 0 0])))), (6, (.box 24 (Is (.agg #[.bool false, .slice none 0 0])))), (7, (.box 24 ((ZN ((gz A B : Int))) w.heap.size))), (8, (.box 24 ((ZN (gh.1)) w.heap.size))), (9, (.box 24 ((ZN (gh.2.1)) w.heap.size))), (10, (.box 24 ((ZN (gh.2.2.1)) w.heap.size))), (11, (.box 24 ((ZN (gh.2.2.2)) w.heap.size)))] [(53, (Is (.bool false))), (36, (Is (.bool false)))] B8 a8 W8 := S8
    refine wp_cond_false (S8.bool 0 53 rfl) ?_
    refine wp_skip ?_
    refine thenN ?_
    refine wp_stmt_seq [.val (Zx t q m d ys),
      .val ((ZN (((B).natAbs : Int))) w.heap.size),
      .val ((ZN ((gz A B : Int))) w.heap.size),
      .val ((TWO (ZN ((Y : Int))) (ZN (rm ((B).natAbs : Int) (gz A B : Int)))) w.heap.size),
      .val ((TWO (ZN ((Y : Int))) (ZN (rm ((B).natAbs : Int) (gz A B : Int)))) w.heap.size),
      .val ((ZN ((Y : Int))) w.heap.size),
      .val ((ZN (rm ((B).natAbs : Int) (gz A B : Int))) w.heap.size),
      .new (.box 24 (Is (.agg #[.bool false, .slice none 0 0]))),
      .new (.box 24 (Is (.agg #[.bool false, .slice none 0 0]))),
      .put (.inr 7) (.box 24 ((ZN ((Y : Int))) w.heap.size)),
      .put (.inr 8) (.box 24 ((ZN (rm ((B).natAbs : Int) (gz A B : Int))) w.heap.size))] [.inr 0, .inr 1, .inr 2, .inr 3, .inr 4, .inr 5, .inr 6, .inr 7, .inr 8, .inr 9, .inl 7, .inl 8] [.inr 0, .inr 1] follows S8 rfl (by kernel_rfl) ?_ ?_
    · refine ⟨⟨⟨⟨⟨⟨⟨⟨⟨⟨⟨trivial, ?_⟩, ?_⟩, ?_⟩, ?_⟩, ?_⟩, ?_⟩, ?_⟩, ?_⟩, ?_⟩, ?_⟩, ?_⟩
      · exact owe_load rfl (wants_all rfl) rfl (k := 1) rfl (by kernel_rfl) (loads_of strct_int shp_zx) rfl
      · exact owe_call1 rfl (wants_all rfl) rfl (opnd_op 0 57 (by kernel_rfl) rfl) (fresh_zn _) rfl (fun args w => by go_simp) (fun w u h1 => g_rabsB (by omega) w u ((zx_zv' eB (Nat.le_refl _)) _ _ h1))
      · exact owe_load rfl (wants_all rfl) rfl (k := 5) rfl (by kernel_rfl) (loads_of strct_int shp_zn) rfl
      · exact owe_call2 rfl (wants_all rfl) rfl (opnd_op 1 58 (by kernel_rfl) rfl) (opnd_op 2 59 (by kernel_rfl) rfl) (fresh_two (fresh_zn _) (fresh_zn _)) rfl (fun args w => by go_simp) (fun w u0 u1 h0 h1 => Gives.cast ((fun w u v h1 h2 => g_rfloor hgz (by omega) w u v ((zn_zv dAbs) _ _ h1) ((zn_zv dG) _ _ h2)) w u0 u1 h0 h1) (by rw [eY]))
      · exact owe_move rfl (wants_all rfl) (Or.inl rfl) (opnd_op 3 60 (by kernel_rfl) rfl) rfl
      · exact owe_ext2 rfl (wants_all rfl) rfl (opnd_op 4 56 (by kernel_rfl) rfl) (Or.inl ⟨rfl, rfl⟩) rfl
      · exact owe_ext2 rfl (wants_all rfl) rfl (opnd_op 4 56 (by kernel_rfl) rfl) (Or.inr ⟨rfl, rfl⟩) rfl
      · exact owe_new rfl (wants_all rfl) rfl rfl (fun ρ w => alloc_int ρ _ w)
      · exact owe_new rfl (wants_all rfl) rfl rfl (fun ρ w => alloc_int ρ _ w)
      · exact owe_put 7 rfl (wants_all rfl) rfl (by kernel_rfl) rfl (opnd_op 5 61 (by kernel_rfl) rfl) (stores_of strct_int shp_z0 shp_zn) rfl
      · exact owe_put 8 rfl (wants_all rfl) rfl (by kernel_rfl) rfl (opnd_op 6 62 (by kernel_rfl) rfl) (stores_of strct_int shp_z0 shp_zn) rfl
    intro B9 a9 W9 S9
    replace S9 : Sta w 82 [(2, (.box 24 (Zx s p n c xs))), (3, (.box 24 (Zx t q m d ys))), (4, (.box 24 (Is (.agg #[.bool false, .slice none 0 0])))), (5, (.box 24 (Is (.agg #[.bool false, .slice none 0 0])))), (6, (.box 24 (Is (.agg #[.bool false, .slice none 0 0])))), (7, (.box 24 ((ZN ((gz A B : Int))) w.heap.size))), (8, (.box 24 ((ZN (gh.1)) w.heap.size))), (9, (.box 24 ((ZN (gh.2.1)) w.heap.size))), (10, (.box 24 ((ZN (gh.2.2.1)) w.heap.size))), (11, (.box 24 ((ZN (gh.2.2.2)) w.heap.size))), (14, (.box 24 ((ZN ((Y : Int))) w.heap.size))), (15, (.box 24 ((ZN (rm ((B).natAbs : Int) (gz A B : Int))) w.heap.size)))] [(53, (Is (.bool false))), (36, (Is (.bool false)))] B9 a9 W9 := S9
    refine wp_stmt_seq [.val ((ZN (gh.2.2.1)) w.heap.size),
      .val ((ZN ((Y : Int))) w.heap.size),
      .val ((TWO (ZN (fl (gh.2.2.1) (Y : Int))) (ZN (bzX A B))) w.heap.size),
      .val ((TWO (ZN (fl (gh.2.2.1) (Y : Int))) (ZN (bzX A B))) w.heap.size),
      .val ((ZN (fl (gh.2.2.1) (Y : Int))) w.heap.size),
      .val ((ZN (bzX A B)) w.heap.size),
      .put (.inl 10) (.box 24 ((ZN (bzX A B)) w.heap.size))] [.inr 0, .inr 1, .inr 2, .inr 3, .inr 4, .inr 5, .inr 6, .inr 7, .inr 8, .inr 9, .inr 10, .inr 11] [.inr 0, .inr 1] follows S9 rfl (by kernel_rfl) ?_ ?_
    · refine ⟨⟨⟨⟨⟨⟨⟨trivial, ?_⟩, ?_⟩, ?_⟩, ?_⟩, ?_⟩, ?_⟩, ?_⟩
      · exact owe_load rfl (wants_all rfl) rfl (k := 8) rfl (by kernel_rfl) (loads_of strct_int shp_zn) rfl
      · exact owe_load rfl (wants_all rfl) rfl (k := 10) rfl (by kernel_rfl) (loads_of strct_int shp_zn) rfl
      · exact owe_call2 rfl (wants_all rfl) rfl (opnd_op 0 64 (by kernel_rfl) rfl) (opnd_op 1 65 (by kernel_rfl) rfl) (fresh_two (fresh_zn _) (fresh_zn _)) rfl (fun args w => by go_simp) (fun w u0 u1 h0 h1 => Gives.cast ((fun w u v h1 h2 => g_rfloor hYZ (by omega) w u v ((zn_zv dx) _ _ h1) ((zn_zv dY) _ _ h2)) w u0 u1 h0 h1) (by rw [l4]))
      · exact owe_move rfl (wants_all rfl) (Or.inl rfl) (opnd_op 2 66 (by kernel_rfl) rfl) rfl
      · exact owe_ext2 rfl (wants_all rfl) rfl (opnd_op 3 63 (by kernel_rfl) rfl) (Or.inl ⟨rfl, rfl⟩) rfl
      · exact owe_ext2 rfl (wants_all rfl) rfl (opnd_op 3 63 (by kernel_rfl) rfl) (Or.inr ⟨rfl, rfl⟩) rfl
      · exact owe_set rfl (wants_all rfl) rfl (k := 8) rfl (by kernel_rfl) (opnd_op 5 68 (by kernel_rfl) rfl) (stores_of strct_int shp_zn shp_zn) rfl
    intro B10 a10 W10 S10
    replace S10 : Sta w 82 [(2, (.box 24 (Zx s p n c xs))), (3, (.box 24 (Zx t q m d ys))), (4, (.box 24 (Is (.agg #[.bool false, .slice none 0 0])))), (5, (.box 24 (Is (.agg #[.bool false, .slice none 0 0])))), (6, (.box 24 (Is (.agg #[.bool false, .slice none 0 0])))), (7, (.box 24 ((ZN ((gz A B : Int))) w.heap.size))), (8, (.box 24 ((ZN (gh.1)) w.heap.size))), (9, (.box 24 ((ZN (gh.2.1)) w.heap.size))), (10, (.box 24 ((ZN (bzX A B)) w.heap.size))), (11, (.box 24 ((ZN (gh.2.2.2)) w.heap.size))), (14, (.box 24 ((ZN ((Y : Int))) w.heap.size))), (15, (.box 24 ((ZN (rm ((B).natAbs : Int) (gz A B : Int))) w.heap.size)))] [(53, (Is (.bool false))), (36, (Is (.bool false)))] B10 a10 W10 := S10
    refine wp_stmt_seq [.val ((ZN ((gz A B : Int))) w.heap.size),
      .val ((ZN (bzX A B)) w.heap.size),
      .val (Zx s p n c xs),
      .val ((ZN ((bzX A B) * A)) w.heap.size),
      .val ((ZN (((gz A B : Int)) - ((bzX A B) * A))) w.heap.size),
      .val (Zx t q m d ys),
      .val ((TWO (ZN (fl (((gz A B : Int)) - ((bzX A B) * A)) B)) (ZN (rm (((gz A B : Int)) - ((bzX A B) * A)) B))) w.heap.size),
      .val ((TWO (ZN (fl (((gz A B : Int)) - ((bzX A B) * A)) B)) (ZN (rm (((gz A B : Int)) - ((bzX A B) * A)) B))) w.heap.size),
      .val ((ZN (fl (((gz A B : Int)) - ((bzX A B) * A)) B)) w.heap.size),
      .val ((ZN (rm (((gz A B : Int)) - ((bzX A B) * A)) B)) w.heap.size),
      .put (.inl 11) (.box 24 ((ZN (fl (((gz A B : Int)) - ((bzX A B) * A)) B)) w.heap.size))] [.inr 0, .inr 1, .inr 2, .inr 3, .inr 4, .inr 5, .inr 6, .inr 7, .inr 8, .inr 9, .inr 10, .inr 11] [.inr 0, .inr 1] follows S10 rfl (by kernel_rfl) ?_ ?_
    · refine ⟨⟨⟨⟨⟨⟨⟨⟨⟨⟨⟨trivial, ?_⟩, ?_⟩, ?_⟩, ?_⟩, ?_⟩, ?_⟩, ?_⟩, ?_⟩, ?_⟩, ?_⟩, ?_⟩
      · exact owe_load rfl (wants_all rfl) rfl (k := 5) rfl (by kernel_rfl) (loads_of strct_int shp_zn) rfl
      · exact owe_load rfl (wants_all rfl) rfl (k := 8) rfl (by kernel_rfl) (loads_of strct_int shp_zn) rfl
      · exact owe_load rfl (wants_all rfl) rfl (k := 0) rfl (by kernel_rfl) (loads_of strct_int shp_zx) rfl
      · exact owe_call2 rfl (wants_all rfl) rfl (opnd_op 1 71 (by kernel_rfl) rfl) (opnd_op 2 72 (by kernel_rfl) rfl) (fresh_zn _) rfl (fun args w => by go_simp) (fun w u v h1 h2 => g_rmul (by omega) w u v ((zn_zv dX) _ _ h1) ((zx_zv' eA (Nat.le_refl _)) _ _ h2))
      · exact owe_call2 rfl (wants_all rfl) rfl (opnd_op 0 70 (by kernel_rfl) rfl) (opnd_op 3 73 (by kernel_rfl) rfl) (fresh_zn _) rfl (fun args w => by go_simp) (fun w u v h1 h2 => g_rsub (by omega) (by omega) w u v ((zn_zv dG) _ _ h1) ((zn_zv dXA) _ _ h2))
      · exact owe_load rfl (wants_all rfl) rfl (k := 1) rfl (by kernel_rfl) (loads_of strct_int shp_zx) rfl
      · exact owe_call2 rfl (wants_all rfl) rfl (opnd_op 4 74 (by kernel_rfl) rfl) (opnd_op 5 75 (by kernel_rfl) rfl) (fresh_two (fresh_zn _) (fresh_zn _)) rfl (fun args w => by go_simp) (fun w u v h1 h2 => g_rfloor hB (by omega) w u v ((zn_zv (Nat.le_refl _)) _ _ h1) ((zx_zv' eB (Nat.le_refl _)) _ _ h2))
      · exact owe_move rfl (wants_all rfl) (Or.inl rfl) (opnd_op 6 76 (by kernel_rfl) rfl) rfl
      · exact owe_ext2 rfl (wants_all rfl) rfl (opnd_op 7 69 (by kernel_rfl) rfl) (Or.inl ⟨rfl, rfl⟩) rfl
      · exact owe_ext2 rfl (wants_all rfl) rfl (opnd_op 7 69 (by kernel_rfl) rfl) (Or.inr ⟨rfl, rfl⟩) rfl
      · exact owe_set rfl (wants_all rfl) rfl (k := 9) rfl (by kernel_rfl) (opnd_op 8 77 (by kernel_rfl) rfl) (stores_of strct_int shp_zn shp_zn) rfl
    intro B11 a11 W11 S11
    replace S11 : Sta w 82 [(2, (.box 24 (Zx s p n c xs))), (3, (.box 24 (Zx t q m d ys))), (4, (.box 24 (Is (.agg #[.bool false, .slice none 0 0])))), (5, (.box 24 (Is (.agg #[.bool false, .slice none 0 0])))), (6, (.box 24 (Is (.agg #[.bool false, .slice none 0 0])))), (7, (.box 24 ((ZN ((gz A B : Int))) w.heap.size))), (8, (.box 24 ((ZN (gh.1)) w.heap.size))), (9, (.box 24 ((ZN (gh.2.1)) w.heap.size))), (10, (.box 24 ((ZN (bzX A B)) w.heap.size))), (11, (.box 24 ((ZN (fl (((gz A B : Int)) - ((bzX A B) * A)) B)) w.heap.size))), (14, (.box 24 ((ZN ((Y : Int))) w.heap.size))), (15, (.box 24 ((ZN (rm ((B).natAbs : Int) (gz A B : Int))) w.heap.size)))] [(53, (Is (.bool false))), (36, (Is (.bool false)))] B11 a11 W11 := S11
    refine wp_stmt_seq [.val ((ZN ((gz A B : Int))) w.heap.size),
      .val ((ZN (bzX A B)) w.heap.size),
      .val ((ZN (fl (((gz A B : Int)) - ((bzX A B) * A)) B)) w.heap.size),
      .put (.inl 4) (.box 24 ((ZN ((gz A B : Int))) w.heap.size)),
      .put (.inl 5) (.box 24 ((ZN (bzX A B)) w.heap.size)),
      .put (.inl 6) (.box 24 ((ZN (fl (((gz A B : Int)) - ((bzX A B) * A)) B)) w.heap.size))] [.inr 0, .inr 1, .inr 2, .inr 3, .inr 4, .inr 5, .inr 6, .inr 7, .inr 8, .inr 9, .inr 10, .inr 11] [.inr 0, .inr 1] follows S11 rfl (by kernel_rfl) ?_ ?_
    · refine ⟨⟨⟨⟨⟨⟨trivial, ?_⟩, ?_⟩, ?_⟩, ?_⟩, ?_⟩, ?_⟩
      · exact owe_load rfl (wants_all rfl) rfl (k := 5) rfl (by kernel_rfl) (loads_of strct_int shp_zn) rfl
      · exact owe_load rfl (wants_all rfl) rfl (k := 8) rfl (by kernel_rfl) (loads_of strct_int shp_zn) rfl
      · exact owe_load rfl (wants_all rfl) rfl (k := 9) rfl (by kernel_rfl) (loads_of strct_int shp_zn) rfl
      · exact owe_set rfl (wants_all rfl) rfl (k := 2) rfl (by kernel_rfl) (opnd_op 0 79 (by kernel_rfl) rfl) (stores_of strct_int shp_z0 shp_zn) rfl
      · exact owe_set rfl (wants_all rfl) rfl (k := 3) rfl (by kernel_rfl) (opnd_op 1 80 (by kernel_rfl) rfl) (stores_of strct_int shp_z0 shp_zn) rfl
      · exact owe_set rfl (wants_all rfl) rfl (k := 4) rfl (by kernel_rfl) (opnd_op 2 81 (by kernel_rfl) rfl) (stores_of strct_int shp_z0 shp_zn) rfl
    intro B12 a12 W12 S12
    replace S12 : Sta w 82 [(2, (.box 24 (Zx s p n c xs))), (3, (.box 24 (Zx t q m d ys))), (4, (.box 24 ((ZN ((gz A B : Int))) w.heap.size))), (5, (.box 24 ((ZN (bzX A B)) w.heap.size))), (6, (.box 24 ((ZN (fl (((gz A B : Int)) - ((bzX A B) * A)) B)) w.heap.size))), (7, (.box 24 ((ZN ((gz A B : Int))) w.heap.size))), (8, (.box 24 ((ZN (gh.1)) w.heap.size))), (9, (.box 24 ((ZN (gh.2.1)) w.heap.size))), (10, (.box 24 ((ZN (bzX A B)) w.heap.size))), (11, (.box 24 ((ZN (fl (((gz A B : Int)) - ((bzX A B) * A)) B)) w.heap.size))), (14, (.box 24 ((ZN ((Y : Int))) w.heap.size))), (15, (.box 24 ((ZN (rm ((B).natAbs : Int) (gz A B : Int))) w.heap.size)))] [(53, (Is (.bool false))), (36, (Is (.bool false)))] B12 a12 W12 := S12
    refine wp_ret ?_
    exact end_three S12 rfl (res_cell S12 2 4 rfl strct_int shp_zn) (res_cell S12 3 5 rfl strct_int shp_zn) (res_cell S12 4 6 rfl strct_int shp_zn)
  · have sz := hcond.size hB
    have dr : (digs gh.1.natAbs).length ≤ n + m + 1 := Nat.le_trans (digs_length_mono sz.1) (Nat.le_trans (digs_add_lenB (k := n + m) (by omega) (by omega)) (by omega))
    have ds : (digs gh.2.1.natAbs).length ≤ m := Nat.le_trans (digs_length_mono sz.2.1) dB
    have dx : (digs gh.2.2.1.natAbs).length ≤ m := Nat.le_trans (digs_length_mono sz.2.2.1) dB
    have dy : (digs gh.2.2.2.natAbs).length ≤ m := Nat.le_trans (digs_length_mono sz.2.2.2) dB
    have df : (digs (fl gh.1 gh.2.1).natAbs).length ≤ n + m + 2 := fl_len hs dr
    have dfy : (digs (fl gh.1 gh.2.1 * gh.2.2.2).natAbs).length ≤ n + m + 2 + m := dl_mul df dy
    refine wp_seq ?_
    refine wp_stmt_seq [.val ((ZN (gh.2.1)) w.heap.size),
      .val (Is (.int .i64 (gh.2.1).sign)),
      .val (Is (.bool true))] [.inr 0, .inr 1, .inr 2, .inr 3, .inr 4, .inr 5, .inr 6, .inr 7, .inr 8, .inr 9] [.inl 2] follows S6 rfl (by kernel_rfl) ?_ ?_
    · refine ⟨⟨⟨trivial, ?_⟩, ?_⟩, ?_⟩
      · exact owe_load rfl (wants_all rfl) rfl (k := 7) rfl (by kernel_rfl) (loads_of strct_int shp_zn) rfl
      · exact owe_call1 rfl (wants_all rfl) rfl (opnd_op 0 34 (by kernel_rfl) rfl) (fresh_is _) rfl (fun args w => by go_simp) (fun w u h1 => g_rsign (by omega) w u ((zn_zv ds) _ _ h1))
      · exact owe_bin rfl (wants_all rfl) rfl (opnd_op 1 35 (by kernel_rfl) rfl) (opnd_const _) rfl (fun ρ w h1 h2 => by exact run_neq_int_t ρ _ _ _ w _ _ (fun e => hs (Int.sign_eq_zero_iff_zero.1 e)) h1 h2)
    intro B7 a7 W7 S7
    replace S7 : Sta w 82 [(2, (.box 24 (Zx s p n c xs))), (3, (.box 24 (Zx t q m d ys))), (4, (.box 24 (Is (.agg #[.bool false, .slice none 0 0])))), (5, (.box 24 (Is (.agg #[.bool false, .slice none 0 0])))), (6, (.box 24 (Is (.agg #[.bool false, .slice none 0 0])))), (7, (.box 24 ((ZN ((gz A B : Int))) w.heap.size))), (8, (.box 24 ((ZN (gh.1)) w.heap.size))), (9, (.box 24 ((ZN (gh.2.1)) w.heap.size))), (10, (.box 24 ((ZN (gh.2.2.1)) w.heap.size))), (11, (.box 24 ((ZN (gh.2.2.2)) w.heap.size)))] [(36, (Is (.bool true)))] B7 a7 W7 := S7
    refine wp_cond_true (S7.bool 0 36 rfl) ?_
    refine wp_skip ?_
    refine thenN ?_
    refine wp_block ?_
    refine wp_stmt_seq [.val ((ZN (gh.1)) w.heap.size),
      .val ((ZN (gh.2.1)) w.heap.size),
      .val ((TWO (ZN (fl (gh.1) (gh.2.1))) (ZN (rm (gh.1) (gh.2.1)))) w.heap.size),
      .val ((TWO (ZN (fl (gh.1) (gh.2.1))) (ZN (rm (gh.1) (gh.2.1)))) w.heap.size),
      .val ((ZN (fl (gh.1) (gh.2.1))) w.heap.size),
      .val ((ZN (rm (gh.1) (gh.2.1))) w.heap.size),
      .new (.box 24 (Is (.agg #[.bool false, .slice none 0 0]))),
      .new (.box 24 (Is (.agg #[.bool false, .slice none 0 0]))),
      .put (.inr 6) (.box 24 ((ZN (fl (gh.1) (gh.2.1))) w.heap.size)),
      .put (.inr 7) (.box 24 ((ZN (rm (gh.1) (gh.2.1))) w.heap.size))] [.inr 0, .inr 1, .inr 2, .inr 3, .inr 4, .inr 5, .inr 6, .inr 7, .inr 8, .inr 9, .inl 6, .inl 7] [.inr 0] follows S7 rfl (by kernel_rfl) ?_ ?_
    · refine ⟨⟨⟨⟨⟨⟨⟨⟨⟨⟨trivial, ?_⟩, ?_⟩, ?_⟩, ?_⟩, ?_⟩, ?_⟩, ?_⟩, ?_⟩, ?_⟩, ?_⟩
      · exact owe_load rfl (wants_all rfl) rfl (k := 6) rfl (by kernel_rfl) (loads_of strct_int shp_zn) rfl
      · exact owe_load rfl (wants_all rfl) rfl (k := 7) rfl (by kernel_rfl) (loads_of strct_int shp_zn) rfl
      · exact owe_call2 rfl (wants_all rfl) rfl (opnd_op 0 38 (by kernel_rfl) rfl) (opnd_op 1 39 (by kernel_rfl) rfl) (fresh_two (fresh_zn _) (fresh_zn _)) rfl (fun args w => by go_simp) (fun w u v h1 h2 => g_rfloor hs (by omega) w u v ((zn_zv dr) _ _ h1) ((zn_zv ds) _ _ h2))
      · exact owe_move rfl (wants_all rfl) (Or.inl rfl) (opnd_op 2 40 (by kernel_rfl) rfl) rfl
      · exact owe_ext2 rfl (wants_all rfl) rfl (opnd_op 3 37 (by kernel_rfl) rfl) (Or.inl ⟨rfl, rfl⟩) rfl
      · exact owe_ext2 rfl (wants_all rfl) rfl (opnd_op 3 37 (by kernel_rfl) rfl) (Or.inr ⟨rfl, rfl⟩) rfl
      · exact owe_new rfl (wants_all rfl) rfl rfl (fun ρ w => alloc_int ρ _ w)
      · exact owe_new rfl (wants_all rfl) rfl rfl (fun ρ w => alloc_int ρ _ w)
      · exact owe_put 6 rfl (wants_all rfl) rfl (by kernel_rfl) rfl (opnd_op 4 41 (by kernel_rfl) rfl) (stores_of strct_int shp_z0 shp_zn) rfl
      · exact owe_put 7 rfl (wants_all rfl) rfl (by kernel_rfl) rfl (opnd_op 5 42 (by kernel_rfl) rfl) (stores_of strct_int shp_z0 shp_zn) rfl
    intro B8 a8 W8 S8
    replace S8 : Sta w 82 [(2, (.box 24 (Zx s p n c xs))), (3, (.box 24 (Zx t q m d ys))), (4, (.box 24 (Is (.agg #[.bool false, .slice none 0 0])))), (5, (.box 24 (Is (.agg #[.bool false, .slice none 0 0])))), (6, (.box 24 (Is (.agg #[.bool false, .slice none 0 0])))), (7, (.box 24 ((ZN ((gz A B : Int))) w.heap.size))), (8, (.box 24 ((ZN (gh.1)) w.heap.size))), (9, (.box 24 ((ZN (gh.2.1)) w.heap.size))), (10, (.box 24 ((ZN (gh.2.2.1)) w.heap.size))), (11, (.box 24 ((ZN (gh.2.2.2)) w.heap.size))), (12, (.box 24 ((ZN (fl (gh.1) (gh.2.1))) w.heap.size))), (13, (.box 24 ((ZN (rm (gh.1) (gh.2.1))) w.heap.size)))] [(36, (Is (.bool true)))] B8 a8 W8 := S8
    refine wp_stmt_seq [.val ((ZN (gh.2.2.2)) w.heap.size),
      .val ((ZN (gh.2.2.1)) w.heap.size),
      .val ((ZN (fl (gh.1) (gh.2.1))) w.heap.size),
      .val ((ZN (gh.2.2.2)) w.heap.size),
      .val ((ZN ((fl (gh.1) (gh.2.1)) * (gh.2.2.2))) w.heap.size),
      .val ((ZN ((gh.2.2.1) - ((fl (gh.1) (gh.2.1)) * (gh.2.2.2)))) w.heap.size),
      .put (.inl 10) (.box 24 ((ZN (gh.2.2.2)) w.heap.size)),
      .put (.inl 11) (.box 24 ((ZN ((gh.2.2.1) - ((fl (gh.1) (gh.2.1)) * (gh.2.2.2)))) w.heap.size))] [.inr 0, .inr 1, .inr 2, .inr 3, .inr 4, .inr 5, .inr 6, .inr 7, .inr 8, .inr 9, .inr 10, .inr 11] [.inr 0] follows S8 rfl (by kernel_rfl) ?_ ?_
    · refine ⟨⟨⟨⟨⟨⟨⟨⟨trivial, ?_⟩, ?_⟩, ?_⟩, ?_⟩, ?_⟩, ?_⟩, ?_⟩, ?_⟩
      · exact owe_load rfl (wants_all rfl) rfl (k := 9) rfl (by kernel_rfl) (loads_of strct_int shp_zn) rfl
      · exact owe_load rfl (wants_all rfl) rfl (k := 8) rfl (by kernel_rfl) (loads_of strct_int shp_zn) rfl
      · exact owe_load rfl (wants_all rfl) rfl (k := 10) rfl (by kernel_rfl) (loads_of strct_int shp_zn) rfl
      · exact owe_load rfl (wants_all rfl) rfl (k := 9) rfl (by kernel_rfl) (loads_of strct_int shp_zn) rfl
      · exact owe_call2 rfl (wants_all rfl) rfl (opnd_op 2 45 (by kernel_rfl) rfl) (opnd_op 3 46 (by kernel_rfl) rfl) (fresh_zn _) rfl (fun args w => by go_simp) (fun w u v h1 h2 => g_rmul (by omega) w u v ((zn_zv df) _ _ h1) ((zn_zv dy) _ _ h2))
      · exact owe_call2 rfl (wants_all rfl) rfl (opnd_op 1 44 (by kernel_rfl) rfl) (opnd_op 4 47 (by kernel_rfl) rfl) (fresh_zn _) rfl (fun args w => by go_simp) (fun w u v h1 h2 => g_rsub (by omega) (by omega) w u v ((zn_zv dx) _ _ h1) ((zn_zv dfy) _ _ h2))
      · exact owe_set rfl (wants_all rfl) rfl (k := 8) rfl (by kernel_rfl) (opnd_op 0 43 (by kernel_rfl) rfl) (stores_of strct_int shp_zn shp_zn) rfl
      · exact owe_set rfl (wants_all rfl) rfl (k := 9) rfl (by kernel_rfl) (opnd_op 5 48 (by kernel_rfl) rfl) (stores_of strct_int shp_zn shp_zn) rfl
    intro B9 a9 W9 S9
    replace S9 : Sta w 82 [(2, (.box 24 (Zx s p n c xs))), (3, (.box 24 (Zx t q m d ys))), (4, (.box 24 (Is (.agg #[.bool false, .slice none 0 0])))), (5, (.box 24 (Is (.agg #[.bool false, .slice none 0 0])))), (6, (.box 24 (Is (.agg #[.bool false, .slice none 0 0])))), (7, (.box 24 ((ZN ((gz A B : Int))) w.heap.size))), (8, (.box 24 ((ZN (gh.1)) w.heap.size))), (9, (.box 24 ((ZN (gh.2.1)) w.heap.size))), (10, (.box 24 ((ZN (gh.2.2.2)) w.heap.size))), (11, (.box 24 ((ZN ((gh.2.2.1) - ((fl (gh.1) (gh.2.1)) * (gh.2.2.2)))) w.heap.size))), (12, (.box 24 ((ZN (fl (gh.1) (gh.2.1))) w.heap.size))), (13, (.box 24 ((ZN (rm (gh.1) (gh.2.1))) w.heap.size)))] [(36, (Is (.bool true)))] B9 a9 W9 := S9
    refine wp_stmt [.val ((ZN (gh.2.1)) w.heap.size),
      .val ((ZN (rm (gh.1) (gh.2.1))) w.heap.size),
      .put (.inl 8) (.box 24 ((ZN (gh.2.1)) w.heap.size)),
      .put (.inl 9) (.box 24 ((ZN (rm (gh.1) (gh.2.1))) w.heap.size))] [.inr 0, .inr 1, .inr 2, .inr 3, .inr 4, .inr 5, .inr 6, .inr 7, .inr 8, .inr 9, .inr 10, .inr 11] [.inr 0] follows S9 rfl (by kernel_rfl) ?_ ?_
    · refine ⟨⟨⟨⟨trivial, ?_⟩, ?_⟩, ?_⟩, ?_⟩
      · exact owe_load rfl (wants_all rfl) rfl (k := 7) rfl (by kernel_rfl) (loads_of strct_int shp_zn) rfl
      · exact owe_load rfl (wants_all rfl) rfl (k := 11) rfl (by kernel_rfl) (loads_of strct_int shp_zn) rfl
      · exact owe_set rfl (wants_all rfl) rfl (k := 6) rfl (by kernel_rfl) (opnd_op 0 49 (by kernel_rfl) rfl) (stores_of strct_int shp_zn shp_zn) rfl
      · exact owe_set rfl (wants_all rfl) rfl (k := 7) rfl (by kernel_rfl) (opnd_op 1 50 (by kernel_rfl) rfl) (stores_of strct_int shp_zn shp_zn) rfl
    intro B10 a10 W10 S10
    replace S10 : Sta w 82 [(2, (.box 24 (Zx s p n c xs))), (3, (.box 24 (Zx t q m d ys))), (4, (.box 24 (Is (.agg #[.bool false, .slice none 0 0])))), (5, (.box 24 (Is (.agg #[.bool false, .slice none 0 0])))), (6, (.box 24 (Is (.agg #[.bool false, .slice none 0 0])))), (7, (.box 24 ((ZN ((gz A B : Int))) w.heap.size))), (8, (.box 24 ((ZN (gh.2.1)) w.heap.size))), (9, (.box 24 ((ZN (rm (gh.1) (gh.2.1))) w.heap.size))), (10, (.box 24 ((ZN (gh.2.2.2)) w.heap.size))), (11, (.box 24 ((ZN ((gh.2.2.1) - ((fl (gh.1) (gh.2.1)) * (gh.2.2.2)))) w.heap.size))), (12, (.box 24 ((ZN (fl (gh.1) (gh.2.1))) w.heap.size))), (13, (.box 24 ((ZN (rm (gh.1) (gh.2.1))) w.heap.size)))] [(36, (Is (.bool true)))] B10 a10 W10 := S10
    refine inBlkN ?_
    refine thenN ?_
    exact ⟨(gh.2.1, rm gh.1 gh.2.1, gh.2.2.2, gh.2.2.1 - fl gh.1 gh.2.1 * gh.2.2.2), ⟨(RB.next hB hcond hs).1, B10, S10.sub [0, 1, 2, 3, 4, 5, 6, 7, 8, 9] []⟩, (RB.next hB hcond hs).2⟩

set_option maxHeartbeats 400000 in
theorem rbez_w0 (w : World) (s t : Bool) (p q : Option Addr) (n c m d : Nat) (xs ys : List Nat) (h : Sl w p n c xs) (h' : Sl w q m d ys) (A B : Int) (eA : sg s (val xs) = A) (eB : sg t (val ys) = B) (hB : B = 0) (hs1 : n ≤ 1048576) (hs2 : m ≤ 1048576) :
    Calls Try.prog 9 #[.agg #[.bool s, .slice p n c], .agg #[.bool t, .slice q m d]] w (Gives (THREE (ZN ((A.natAbs : Int))) (ZN (A.sign)) (ZN (0))) w) := by
  have hsg := sign_small A
  refine calls_sta (sl := [(0, (Zx s p n c xs)), (1, (Zx t q m d ys))]) Try.func9 rfl Try.ntmps9 (by simp) (args_cons rfl (zx_has h) (args_cons rfl (zx_has h') args_nil)) ?_
  intro a0 S0
  refine wp_stmt_seq [.new (.box 24 (Zx s p n c xs)),
      .new (.box 24 (Zx t q m d ys)),
      .new (.box 24 (Is (.agg #[.bool false, .slice none 0 0]))),
      .new (.box 24 (Is (.agg #[.bool false, .slice none 0 0]))),
      .new (.box 24 (Is (.agg #[.bool false, .slice none 0 0])))] [.inl 0, .inl 1, .inl 2, .inl 3, .inl 4] [] follows S0 rfl (by kernel_rfl) ?_ ?_
  · refine ⟨⟨⟨⟨⟨trivial, ?_⟩, ?_⟩, ?_⟩, ?_⟩, ?_⟩
    · exact owe_box rfl (wants_all rfl) rfl (opnd_slot 0 0 rfl (by kernel_rfl)) rfl (fun ρ w h => box_int shp_zx ρ _ _ w h)
    · exact owe_box rfl (wants_all rfl) rfl (opnd_slot 1 1 rfl (by kernel_rfl)) rfl (fun ρ w h => box_int shp_zx ρ _ _ w h)
    · exact owe_new rfl (wants_all rfl) rfl rfl (fun ρ w => alloc_int ρ _ w)
    · exact owe_new rfl (wants_all rfl) rfl rfl (fun ρ w => alloc_int ρ _ w)
    · exact owe_new rfl (wants_all rfl) rfl rfl (fun ρ w => alloc_int ρ _ w)
  intro B1 a1 W1 S1
  replace S1 : Sta w 82 [(2, (.box 24 (Zx s p n c xs))), (3, (.box 24 (Zx t q m d ys))), (4, (.box 24 (Is (.agg #[.bool false, .slice none 0 0])))), (5, (.box 24 (Is (.agg #[.bool false, .slice none 0 0])))), (6, (.box 24 (Is (.agg #[.bool false, .slice none 0 0]))))] [] B1 a1 W1 := S1
  refine wp_seq ?_
  refine wp_stmt_seq [.val (Zx t q m d ys),
      .val (Is (.int .i64 (B).sign)),
      .val (Is (.bool true))] [.inr 0, .inr 1, .inr 2, .inr 3, .inr 4] [.inl 2] follows S1 rfl (by kernel_rfl) ?_ ?_
  · refine ⟨⟨⟨trivial, ?_⟩, ?_⟩, ?_⟩
    · exact owe_load rfl (wants_all rfl) rfl (k := 1) rfl (by kernel_rfl) (loads_of strct_int shp_zx) rfl
    · exact owe_call1 rfl (wants_all rfl) rfl (opnd_op 0 16 (by kernel_rfl) rfl) (fresh_is _) rfl (fun args w => by go_simp) (fun w u h1 => g_rsign (by omega) w u ((zx_zv' eB (Nat.le_refl _)) _ _ h1))
    · exact owe_bin rfl (wants_all rfl) rfl (opnd_op 1 17 (by kernel_rfl) rfl) (opnd_const _) rfl (fun ρ w h1 h2 => by exact run_eql_int_t ρ _ _ _ w _ _ (by rw [hB]; rfl) h1 h2)
  intro B2 a2 W2 S2
  replace S2 : Sta w 82 [(2, (.box 24 (Zx s p n c xs))), (3, (.box 24 (Zx t q m d ys))), (4, (.box 24 (Is (.agg #[.bool false, .slice none 0 0])))), (5, (.box 24 (Is (.agg #[.bool false, .slice none 0 0])))), (6, (.box 24 (Is (.agg #[.bool false, .slice none 0 0]))))] [(18, (Is (.bool true)))] B2 a2 W2 := S2
  refine wp_cond_true (S2.bool 0 18 rfl) ?_
  refine wp_stmt_seq [.val (Zx s p n c xs),
      .val ((ZN (((A).natAbs : Int))) w.heap.size),
      .val (Zx s p n c xs),
      .val (Is (.int .i64 (A).sign)),
      .val ((ZN ((A).sign)) w.heap.size),
      .val ((ZN (0)) w.heap.size),
      .put (.inl 4) (.box 24 ((ZN (((A).natAbs : Int))) w.heap.size)),
      .put (.inl 5) (.box 24 ((ZN ((A).sign)) w.heap.size)),
      .put (.inl 6) (.box 24 ((ZN (0)) w.heap.size))] [.inr 0, .inr 1, .inr 2, .inr 3, .inr 4] [.inr 0] follows S2 rfl (by kernel_rfl) ?_ ?_
  · refine ⟨⟨⟨⟨⟨⟨⟨⟨⟨trivial, ?_⟩, ?_⟩, ?_⟩, ?_⟩, ?_⟩, ?_⟩, ?_⟩, ?_⟩, ?_⟩
    · exact owe_load rfl (wants_all rfl) rfl (k := 0) rfl (by kernel_rfl) (loads_of strct_int shp_zx) rfl
    · exact owe_call1 rfl (wants_all rfl) rfl (opnd_op 0 19 (by kernel_rfl) rfl) (fresh_zn _) rfl (fun args w => by go_simp) (fun w u h1 => g_rabsB (by omega) w u ((zx_zv' eA (Nat.le_refl _)) _ _ h1))
    · exact owe_load rfl (wants_all rfl) rfl (k := 0) rfl (by kernel_rfl) (loads_of strct_int shp_zx) rfl
    · exact owe_call1 rfl (wants_all rfl) rfl (opnd_op 2 21 (by kernel_rfl) rfl) (fresh_is _) rfl (fun args w => by go_simp) (fun w u h1 => g_rsign (by omega) w u ((zx_zv' eA (Nat.le_refl _)) _ _ h1))
    · exact owe_call1 rfl (wants_all rfl) rfl (opnd_op 3 22 (by kernel_rfl) rfl) (fresh_zn _) rfl (fun args w => by go_simp) (g_rof (A).sign (by omega) (by omega))
    · exact owe_call1 rfl (wants_all rfl) rfl (opnd_const _) (fresh_zn _) rfl (fun args w => by go_simp) (g_rof 0 (by omega) (by omega))
    · exact owe_set rfl (wants_all rfl) rfl (k := 2) rfl (by kernel_rfl) (opnd_op 1 20 (by kernel_rfl) rfl) (stores_of strct_int shp_z0 shp_zn) rfl
    · exact owe_set rfl (wants_all rfl) rfl (k := 3) rfl (by kernel_rfl) (opnd_op 4 23 (by kernel_rfl) rfl) (stores_of strct_int shp_z0 shp_zn) rfl
    · exact owe_set rfl (wants_all rfl) rfl (k := 4) rfl (by kernel_rfl) (opnd_op 5 24 (by kernel_rfl) rfl) (stores_of strct_int shp_z0 shp_zn) rfl
  intro B3 a3 W3 S3
  replace S3 : Sta w 82 [(2, (.box 24 (Zx s p n c xs))), (3, (.box 24 (Zx t q m d ys))), (4, (.box 24 ((ZN (((A).natAbs : Int))) w.heap.size))), (5, (.box 24 ((ZN ((A).sign)) w.heap.size))), (6, (.box 24 ((ZN (0)) w.heap.size)))] [(18, (Is (.bool true)))] B3 a3 W3 := S3
  refine wp_ret ?_
  refine thenR ?_
  exact end_three S3 rfl (res_cell S3 2 4 rfl strct_int shp_zn) (res_cell S3 3 5 rfl strct_int shp_zn) (res_cell S3 4 6 rfl strct_int shp_zn)

theorem g_rbez {A B : Int} {ka kb : Nat} (hB : B ≠ 0) (hk : ka ≤ 1048576) (hk' : kb ≤ 1048576) : ∀ w u v, Zv A ka u w → Zv B kb v w → Calls Try.prog 9 #[u, v] w (Gives (THREE (ZN (gz A B : Int)) (ZN (bzX A B)) (ZN (fl ((gz A B : Int) - (bzX A B * A)) B))) w) := by
  rintro w u v ⟨s, p, n, c, xs, rfl, h, rfl, hn⟩ ⟨t, q, m, d, ys, rfl, h', rfl, hm⟩
  exact rbez_w w s t p q n c m d xs ys h h' _ _ rfl rfl hB (by omega) (by omega)
theorem g_rbez0 {A B : Int} {ka kb : Nat} (hB : B = 0) (hk : ka ≤ 1048576) (hk' : kb ≤ 1048576) : ∀ w u v, Zv A ka u w → Zv B kb v w → Calls Try.prog 9 #[u, v] w (Gives (THREE (ZN (A.natAbs : Int)) (ZN A.sign) (ZN 0)) w) := by
  rintro w u v ⟨s, p, n, c, xs, rfl, h, rfl, hn⟩ ⟨t, q, m, d, ys, rfl, h', rfl, hm⟩
  exact rbez_w0 w s t p q n c m d xs ys h h' _ _ rfl rfl hB (by omega) (by omega)

end Go.Proofs.Ytblmlhhicpomkaa

/-
  ZintDivisors' walk: it returns true and writes nothing that was there.
-/
namespace Go.Proofs.Ytblmlhhicpomkaa
open Go Go.RowKit Nt
set_option linter.unusedSimpArgs false
set_option linter.unusedVariables false

set_option maxHeartbeats 1000000 in
theorem zdiv_w0 (w : World) (s t : Bool) (p q : Option Addr) (n c m d : Nat) (xs ys : List Nat) (h : Sl w p n c xs) (h' : Sl w q m d ys) (hc : c ≤ 35184372087808) (hd : d ≤ 35184372087808) (hs : n ≤ 1048576) (hs' : m ≤ 1048576) (A B : Int) (eA : sg s (val xs) = A) (eB : sg t (val ys) = B) (hB : B = 0) :
    Calls Try.prog 3 #[.agg #[.bool s, .slice p n c], .agg #[.bool t, .slice q m d]] w (Gives (IS (.bool true)) w) := by
  have dA : (digs A.natAbs).length ≤ n := by rw [← eA]; exact sg_dl h
  have dB : (digs B.natAbs).length ≤ m := by rw [← eB]; exact sg_dl h'
  refine calls_sta (sl := [(0, (Zx s p n c xs)), (1, (Zx t q m d ys))]) Try.func3 rfl Try.ntmps3 (by simp) (args_cons rfl (zx_has h) (args_cons rfl (zx_has h') args_nil)) ?_
  intro a0 S0
  refine wp_stmt_seq [.new (.box 24 (Zx s p n c xs)),
      .new (.box 24 (Zx t q m d ys)),
      .val (Is (.bool false))] [.inl 0, .inl 1] [.inl 2] follows S0 rfl (by kernel_rfl) ?_ ?_
  · refine ⟨⟨⟨trivial, ?_⟩, ?_⟩, ?_⟩
    · exact owe_box rfl (wants_all rfl) rfl (opnd_slot 0 0 rfl (by kernel_rfl)) rfl (fun ρ w h => box_int shp_zx ρ _ _ w h)
    · exact owe_box rfl (wants_all rfl) rfl (opnd_slot 1 1 rfl (by kernel_rfl)) rfl (fun ρ w h => box_int shp_zx ρ _ _ w h)
    · exact owe_move rfl (wants_all rfl) (Or.inr rfl) (opnd_const _) rfl
  intro B1 a1 W1 S1
  replace S1 : Sta w 50 [(2, (.box 24 (Zx s p n c xs))), (3, (.box 24 (Zx t q m d ys)))] [(4, (Is (.bool false)))] B1 a1 W1 := S1
  refine wp_seq ?_
  refine wp_stmt_seq [.val (Zx s p n c xs),
      .val ((ZO s n xs) w.heap.size),
      .val (Zx t q m d ys),
      .val ((ZO t m ys) w.heap.size),
      .val ((ZN ((gz A B : Int))) w.heap.size),
      .val (Zx s p n c xs),
      .val (Zx t q m d ys),
      .val ((ZN ((gz A B : Int))) w.heap.size),
      .val (Is (.bool true)),
      .val (Is (.bool false))] [.inr 0, .inr 1] [.inl 9, .inr 0] follows S1 rfl (by kernel_rfl) ?_ ?_
  · refine ⟨⟨⟨⟨⟨⟨⟨⟨⟨⟨trivial, ?_⟩, ?_⟩, ?_⟩, ?_⟩, ?_⟩, ?_⟩, ?_⟩, ?_⟩, ?_⟩, ?_⟩
    · exact owe_load rfl (wants_all rfl) rfl (k := 0) rfl (by kernel_rfl) (loads_of strct_int shp_zx) rfl
    · exact owe_call1 rfl (wants_all rfl) rfl (opnd_op 0 11 (by kernel_rfl) rfl) (fresh_zo _ _ _) rfl (fun args w => by go_simp) (g_own hc)
    · exact owe_load rfl (wants_all rfl) rfl (k := 1) rfl (by kernel_rfl) (loads_of strct_int shp_zx) rfl
    · exact owe_call1 rfl (wants_all rfl) rfl (opnd_op 2 13 (by kernel_rfl) rfl) (fresh_zo _ _ _) rfl (fun args w => by go_simp) (g_own hd)
    · exact owe_call2 rfl (wants_all rfl) rfl (opnd_op 1 12 (by kernel_rfl) rfl) (opnd_op 3 14 (by kernel_rfl) rfl) (fresh_zn _) rfl (fun args w => by go_simp) (fun w u v h1 h2 => g_zgcdB (by omega) (by omega) w u v ((zo_zv eA (Nat.le_refl _)) _ _ h1) ((zo_zv eB (Nat.le_refl _)) _ _ h2))
    · exact owe_load rfl (wants_all rfl) rfl (k := 0) rfl (by kernel_rfl) (loads_of strct_int shp_zx) rfl
    · exact owe_load rfl (wants_all rfl) rfl (k := 1) rfl (by kernel_rfl) (loads_of strct_int shp_zx) rfl
    · exact owe_call2 rfl (wants_all rfl) rfl (opnd_op 5 16 (by kernel_rfl) rfl) (opnd_op 6 17 (by kernel_rfl) rfl) (fresh_zn _) rfl (fun args w => by go_simp) (fun w u v h1 h2 => g_rzgcdB (by omega) (by omega) w u v ((zx_zv' eA (Nat.le_refl _)) _ _ h1) ((zx_zv' eB (Nat.le_refl _)) _ _ h2))
    · exact owe_call2 rfl (wants_all rfl) rfl (opnd_op 4 15 (by kernel_rfl) rfl) (opnd_op 7 18 (by kernel_rfl) rfl) (fresh_is _) rfl (fun args w => by go_simp) g_eq
    · exact owe_un (x := .tmp 19) rfl (wants_all rfl) rfl (opnd_op 8 19 (by kernel_rfl) rfl) rfl (fun ρ w h1 => run_not ρ _ _ w _ h1)
  intro B2 a2 W2 S2
  replace S2 : Sta w 50 [(2, (.box 24 (Zx s p n c xs))), (3, (.box 24 (Zx t q m d ys)))] [(20, (Is (.bool false))), (4, (Is (.bool false)))] B2 a2 W2 := S2
  refine wp_cond_false (S2.bool 0 20 rfl) ?_
  refine wp_skip ?_
  refine thenN ?_
  refine wp_stmt_seq [.val (Zx s p n c xs),
      .val ((ZO s n xs) w.heap.size),
      .val (Zx t q m d ys),
      .val ((ZO t m ys) w.heap.size),
      .val ((THREE (ZN ((A.natAbs : Int))) (ZN (A.sign)) (ZN (0))) w.heap.size),
      .val ((THREE (ZN ((A.natAbs : Int))) (ZN (A.sign)) (ZN (0))) w.heap.size),
      .val ((ZN ((A.natAbs : Int))) w.heap.size),
      .val ((ZN (A.sign)) w.heap.size),
      .val ((ZN (0)) w.heap.size),
      .new (.box 24 (Is (.agg #[.bool false, .slice none 0 0]))),
      .new (.box 24 (Is (.agg #[.bool false, .slice none 0 0]))),
      .new (.box 24 (Is (.agg #[.bool false, .slice none 0 0]))),
      .put (.inr 9) (.box 24 ((ZN ((A.natAbs : Int))) w.heap.size)),
      .put (.inr 10) (.box 24 ((ZN (A.sign)) w.heap.size)),
      .put (.inr 11) (.box 24 ((ZN (0)) w.heap.size))] [.inr 0, .inr 1, .inl 9, .inl 10, .inl 11] [.inr 0, .inr 1] follows S2 rfl (by kernel_rfl) ?_ ?_
  · refine ⟨⟨⟨⟨⟨⟨⟨⟨⟨⟨⟨⟨⟨⟨⟨trivial, ?_⟩, ?_⟩, ?_⟩, ?_⟩, ?_⟩, ?_⟩, ?_⟩, ?_⟩, ?_⟩, ?_⟩, ?_⟩, ?_⟩, ?_⟩, ?_⟩, ?_⟩
    · exact owe_load rfl (wants_all rfl) rfl (k := 0) rfl (by kernel_rfl) (loads_of strct_int shp_zx) rfl
    · exact owe_call1 rfl (wants_all rfl) rfl (opnd_op 0 22 (by kernel_rfl) rfl) (fresh_zo _ _ _) rfl (fun args w => by go_simp) (g_own hc)
    · exact owe_load rfl (wants_all rfl) rfl (k := 1) rfl (by kernel_rfl) (loads_of strct_int shp_zx) rfl
    · exact owe_call1 rfl (wants_all rfl) rfl (opnd_op 2 24 (by kernel_rfl) rfl) (fresh_zo _ _ _) rfl (fun args w => by go_simp) (g_own hd)
    · exact owe_call2 rfl (wants_all rfl) rfl (opnd_op 1 23 (by kernel_rfl) rfl) (opnd_op 3 25 (by kernel_rfl) rfl) (fresh_three (fresh_zn _) (fresh_zn _) (fresh_zn _)) rfl (fun args w => by go_simp) (fun w u v h1 h2 => g_zbez0 hB (by omega) (by omega) w u v ((zo_zv eA (Nat.le_refl _)) _ _ h1) ((zo_zv eB (Nat.le_refl _)) _ _ h2))
    · exact owe_move rfl (wants_all rfl) (Or.inl rfl) (opnd_op 4 26 (by kernel_rfl) rfl) rfl
    · exact owe_ext3 rfl (wants_all rfl) rfl (opnd_op 5 21 (by kernel_rfl) rfl) (Or.inl ⟨rfl, rfl⟩) rfl
    · exact owe_ext3 rfl (wants_all rfl) rfl (opnd_op 5 21 (by kernel_rfl) rfl) (Or.inr (Or.inl ⟨rfl, rfl⟩)) rfl
    · exact owe_ext3 rfl (wants_all rfl) rfl (opnd_op 5 21 (by kernel_rfl) rfl) (Or.inr (Or.inr ⟨rfl, rfl⟩)) rfl
    · exact owe_new rfl (wants_all rfl) rfl rfl (fun ρ w => alloc_int ρ _ w)
    · exact owe_new rfl (wants_all rfl) rfl rfl (fun ρ w => alloc_int ρ _ w)
    · exact owe_new rfl (wants_all rfl) rfl rfl (fun ρ w => alloc_int ρ _ w)
    · exact owe_put 9 rfl (wants_all rfl) rfl (by kernel_rfl) rfl (opnd_op 6 27 (by kernel_rfl) rfl) (stores_of strct_int shp_z0 shp_zn) rfl
    · exact owe_put 10 rfl (wants_all rfl) rfl (by kernel_rfl) rfl (opnd_op 7 28 (by kernel_rfl) rfl) (stores_of strct_int shp_z0 shp_zn) rfl
    · exact owe_put 11 rfl (wants_all rfl) rfl (by kernel_rfl) rfl (opnd_op 8 29 (by kernel_rfl) rfl) (stores_of strct_int shp_z0 shp_zn) rfl
  intro B3 a3 W3 S3
  replace S3 : Sta w 50 [(2, (.box 24 (Zx s p n c xs))), (3, (.box 24 (Zx t q m d ys))), (5, (.box 24 ((ZN ((A.natAbs : Int))) w.heap.size))), (6, (.box 24 ((ZN (A.sign)) w.heap.size))), (7, (.box 24 ((ZN (0)) w.heap.size)))] [(20, (Is (.bool false))), (4, (Is (.bool false)))] B3 a3 W3 := S3
  refine wp_stmt_seq [.val (Zx s p n c xs),
      .val (Zx t q m d ys),
      .val ((THREE (ZN ((A.natAbs : Int))) (ZN (A.sign)) (ZN (0))) w.heap.size),
      .val ((THREE (ZN ((A.natAbs : Int))) (ZN (A.sign)) (ZN (0))) w.heap.size),
      .val ((ZN ((A.natAbs : Int))) w.heap.size),
      .val ((ZN (A.sign)) w.heap.size),
      .val ((ZN (0)) w.heap.size),
      .new (.box 24 (Is (.agg #[.bool false, .slice none 0 0]))),
      .new (.box 24 (Is (.agg #[.bool false, .slice none 0 0]))),
      .new (.box 24 (Is (.agg #[.bool false, .slice none 0 0]))),
      .put (.inr 7) (.box 24 ((ZN ((A.natAbs : Int))) w.heap.size)),
      .put (.inr 8) (.box 24 ((ZN (A.sign)) w.heap.size)),
      .put (.inr 9) (.box 24 ((ZN (0)) w.heap.size))] [.inr 0, .inr 1, .inr 2, .inr 3, .inr 4, .inl 7, .inl 8, .inl 9] [.inr 0, .inr 1] follows S3 rfl (by kernel_rfl) ?_ ?_
  · refine ⟨⟨⟨⟨⟨⟨⟨⟨⟨⟨⟨⟨⟨trivial, ?_⟩, ?_⟩, ?_⟩, ?_⟩, ?_⟩, ?_⟩, ?_⟩, ?_⟩, ?_⟩, ?_⟩, ?_⟩, ?_⟩, ?_⟩
    · exact owe_load rfl (wants_all rfl) rfl (k := 0) rfl (by kernel_rfl) (loads_of strct_int shp_zx) rfl
    · exact owe_load rfl (wants_all rfl) rfl (k := 1) rfl (by kernel_rfl) (loads_of strct_int shp_zx) rfl
    · exact owe_call2 rfl (wants_all rfl) rfl (opnd_op 0 31 (by kernel_rfl) rfl) (opnd_op 1 32 (by kernel_rfl) rfl) (fresh_three (fresh_zn _) (fresh_zn _) (fresh_zn _)) rfl (fun args w => by go_simp) (fun w u v h1 h2 => g_rbez0 hB (by omega) (by omega) w u v ((zx_zv' eA (Nat.le_refl _)) _ _ h1) ((zx_zv' eB (Nat.le_refl _)) _ _ h2))
    · exact owe_move rfl (wants_all rfl) (Or.inl rfl) (opnd_op 2 33 (by kernel_rfl) rfl) rfl
    · exact owe_ext3 rfl (wants_all rfl) rfl (opnd_op 3 30 (by kernel_rfl) rfl) (Or.inl ⟨rfl, rfl⟩) rfl
    · exact owe_ext3 rfl (wants_all rfl) rfl (opnd_op 3 30 (by kernel_rfl) rfl) (Or.inr (Or.inl ⟨rfl, rfl⟩)) rfl
    · exact owe_ext3 rfl (wants_all rfl) rfl (opnd_op 3 30 (by kernel_rfl) rfl) (Or.inr (Or.inr ⟨rfl, rfl⟩)) rfl
    · exact owe_new rfl (wants_all rfl) rfl rfl (fun ρ w => alloc_int ρ _ w)
    · exact owe_new rfl (wants_all rfl) rfl rfl (fun ρ w => alloc_int ρ _ w)
    · exact owe_new rfl (wants_all rfl) rfl rfl (fun ρ w => alloc_int ρ _ w)
    · exact owe_put 7 rfl (wants_all rfl) rfl (by kernel_rfl) rfl (opnd_op 4 34 (by kernel_rfl) rfl) (stores_of strct_int shp_z0 shp_zn) rfl
    · exact owe_put 8 rfl (wants_all rfl) rfl (by kernel_rfl) rfl (opnd_op 5 35 (by kernel_rfl) rfl) (stores_of strct_int shp_z0 shp_zn) rfl
    · exact owe_put 9 rfl (wants_all rfl) rfl (by kernel_rfl) rfl (opnd_op 6 36 (by kernel_rfl) rfl) (stores_of strct_int shp_z0 shp_zn) rfl
  intro B4 a4 W4 S4
  replace S4 : Sta w 50 [(2, (.box 24 (Zx s p n c xs))), (3, (.box 24 (Zx t q m d ys))), (5, (.box 24 ((ZN ((A.natAbs : Int))) w.heap.size))), (6, (.box 24 ((ZN (A.sign)) w.heap.size))), (7, (.box 24 ((ZN (0)) w.heap.size))), (8, (.box 24 ((ZN ((A.natAbs : Int))) w.heap.size))), (9, (.box 24 ((ZN (A.sign)) w.heap.size))), (10, (.box 24 ((ZN (0)) w.heap.size)))] [(20, (Is (.bool false))), (4, (Is (.bool false)))] B4 a4 W4 := S4
  refine wp_stmt_seq [.val ((ZN ((A.natAbs : Int))) w.heap.size),
      .val ((ZN ((A.natAbs : Int))) w.heap.size),
      .val (Is (.bool true)),
      .val (Is (.bool true)),
      .val ((ZN (A.sign)) w.heap.size),
      .val ((ZN (A.sign)) w.heap.size),
      .val (Is (.bool true)),
      .val (Is (.bool true)),
      .val (Is (.bool true)),
      .val ((ZN (0)) w.heap.size),
      .val ((ZN (0)) w.heap.size),
      .val (Is (.bool true)),
      .val (Is (.bool true)),
      .val (Is (.bool true))] [.inr 0, .inr 1, .inr 2, .inr 3, .inr 4, .inr 5, .inr 6, .inr 7] [.inl 13, .inr 0] follows S4 rfl (by kernel_rfl) ?_ ?_
  · refine ⟨⟨⟨⟨⟨⟨⟨⟨⟨⟨⟨⟨⟨⟨trivial, ?_⟩, ?_⟩, ?_⟩, ?_⟩, ?_⟩, ?_⟩, ?_⟩, ?_⟩, ?_⟩, ?_⟩, ?_⟩, ?_⟩, ?_⟩, ?_⟩
    · exact owe_load rfl (wants_all rfl) rfl (k := 2) rfl (by kernel_rfl) (loads_of strct_int shp_zn) rfl
    · exact owe_load rfl (wants_all rfl) rfl (k := 5) rfl (by kernel_rfl) (loads_of strct_int shp_zn) rfl
    · exact owe_call2 rfl (wants_all rfl) rfl (opnd_op 0 37 (by kernel_rfl) rfl) (opnd_op 1 38 (by kernel_rfl) rfl) (fresh_is _) rfl (fun args w => by go_simp) g_eq
    · exact owe_move rfl (wants_all rfl) (Or.inl rfl) (opnd_op 2 39 (by kernel_rfl) rfl) rfl
    · exact owe_load rfl (wants_if 3 40 rfl (by kernel_rfl) rfl) rfl (k := 3) rfl (by kernel_rfl) (loads_of strct_int shp_zn) rfl
    · exact owe_load rfl (wants_if 3 40 rfl (by kernel_rfl) rfl) rfl (k := 6) rfl (by kernel_rfl) (loads_of strct_int shp_zn) rfl
    · exact owe_call2 rfl (wants_if 3 40 rfl (by kernel_rfl) rfl) rfl (opnd_op 4 41 (by kernel_rfl) rfl) (opnd_op 5 42 (by kernel_rfl) rfl) (fresh_is _) rfl (fun args w => by go_simp) g_eq
    · exact owe_pick rfl (wants_all rfl) rfl (opnd_op 3 40 (by kernel_rfl) rfl) (fun _ => (opnd_op 6 43 (by kernel_rfl) rfl)) (fun h => nomatch h) rfl
    · exact owe_move rfl (wants_all rfl) (Or.inl rfl) (opnd_op 7 44 (by kernel_rfl) rfl) rfl
    · exact owe_load rfl (wants_if 8 45 rfl (by kernel_rfl) rfl) rfl (k := 4) rfl (by kernel_rfl) (loads_of strct_int shp_zn) rfl
    · exact owe_load rfl (wants_if 8 45 rfl (by kernel_rfl) rfl) rfl (k := 7) rfl (by kernel_rfl) (loads_of strct_int shp_zn) rfl
    · exact owe_call2 rfl (wants_if 8 45 rfl (by kernel_rfl) rfl) rfl (opnd_op 9 46 (by kernel_rfl) rfl) (opnd_op 10 47 (by kernel_rfl) rfl) (fresh_is _) rfl (fun args w => by go_simp) g_eq
    · exact owe_pick rfl (wants_all rfl) rfl (opnd_op 8 45 (by kernel_rfl) rfl) (fun _ => (opnd_op 11 48 (by kernel_rfl) rfl)) (fun h => nomatch h) rfl
    · exact owe_move rfl (wants_all rfl) (Or.inr rfl) (opnd_op 12 49 (by kernel_rfl) rfl) rfl
  intro B5 a5 W5 S5
  replace S5 : Sta w 50 [(2, (.box 24 (Zx s p n c xs))), (3, (.box 24 (Zx t q m d ys))), (5, (.box 24 ((ZN ((A.natAbs : Int))) w.heap.size))), (6, (.box 24 ((ZN (A.sign)) w.heap.size))), (7, (.box 24 ((ZN (0)) w.heap.size))), (8, (.box 24 ((ZN ((A.natAbs : Int))) w.heap.size))), (9, (.box 24 ((ZN (A.sign)) w.heap.size))), (10, (.box 24 ((ZN (0)) w.heap.size)))] [(4, (Is (.bool true))), (20, (Is (.bool false)))] B5 a5 W5 := S5
  refine wp_ret ?_
  exact end_one S5 rfl (res_tmp S5 0 4 rfl)

set_option maxHeartbeats 1000000 in
theorem zdiv_w1 (w : World) (s t : Bool) (p q : Option Addr) (n c m d : Nat) (xs ys : List Nat) (h : Sl w p n c xs) (h' : Sl w q m d ys) (hc : c ≤ 35184372087808) (hd : d ≤ 35184372087808) (hs : n ≤ 1048576) (hs' : m ≤ 1048576) (A B : Int) (eA : sg s (val xs) = A) (eB : sg t (val ys) = B) (hB : B ≠ 0) :
    Calls Try.prog 3 #[.agg #[.bool s, .slice p n c], .agg #[.bool t, .slice q m d]] w (Gives (IS (.bool true)) w) := by
  have dA : (digs A.natAbs).length ≤ n := by rw [← eA]; exact sg_dl h
  have dB : (digs B.natAbs).length ≤ m := by rw [← eB]; exact sg_dl h'
  refine calls_sta (sl := [(0, (Zx s p n c xs)), (1, (Zx t q m d ys))]) Try.func3 rfl Try.ntmps3 (by simp) (args_cons rfl (zx_has h) (args_cons rfl (zx_has h') args_nil)) ?_
  intro a0 S0
  refine wp_stmt_seq [.new (.box 24 (Zx s p n c xs)),
      .new (.box 24 (Zx t q m d ys)),
      .val (Is (.bool false))] [.inl 0, .inl 1] [.inl 2] follows S0 rfl (by kernel_rfl) ?_ ?_
  · refine ⟨⟨⟨trivial, ?_⟩, ?_⟩, ?_⟩
    · exact owe_box rfl (wants_all rfl) rfl (opnd_slot 0 0 rfl (by kernel_rfl)) rfl (fun ρ w h => box_int shp_zx ρ _ _ w h)
    · exact owe_box rfl (wants_all rfl) rfl (opnd_slot 1 1 rfl (by kernel_rfl)) rfl (fun ρ w h => box_int shp_zx ρ _ _ w h)
    · exact owe_move rfl (wants_all rfl) (Or.inr rfl) (opnd_const _) rfl
  intro B1 a1 W1 S1
  replace S1 : Sta w 50 [(2, (.box 24 (Zx s p n c xs))), (3, (.box 24 (Zx t q m d ys)))] [(4, (Is (.bool false)))] B1 a1 W1 := S1
  refine wp_seq ?_
  refine wp_stmt_seq [.val (Zx s p n c xs),
      .val ((ZO s n xs) w.heap.size),
      .val (Zx t q m d ys),
      .val ((ZO t m ys) w.heap.size),
      .val ((ZN ((gz A B : Int))) w.heap.size),
      .val (Zx s p n c xs),
      .val (Zx t q m d ys),
      .val ((ZN ((gz A B : Int))) w.heap.size),
      .val (Is (.bool true)),
      .val (Is (.bool false))] [.inr 0, .inr 1] [.inl 9, .inr 0] follows S1 rfl (by kernel_rfl) ?_ ?_
  · refine ⟨⟨⟨⟨⟨⟨⟨⟨⟨⟨trivial, ?_⟩, ?_⟩, ?_⟩, ?_⟩, ?_⟩, ?_⟩, ?_⟩, ?_⟩, ?_⟩, ?_⟩
    · exact owe_load rfl (wants_all rfl) rfl (k := 0) rfl (by kernel_rfl) (loads_of strct_int shp_zx) rfl
    · exact owe_call1 rfl (wants_all rfl) rfl (opnd_op 0 11 (by kernel_rfl) rfl) (fresh_zo _ _ _) rfl (fun args w => by go_simp) (g_own hc)
    · exact owe_load rfl (wants_all rfl) rfl (k := 1) rfl (by kernel_rfl) (loads_of strct_int shp_zx) rfl
    · exact owe_call1 rfl (wants_all rfl) rfl (opnd_op 2 13 (by kernel_rfl) rfl) (fresh_zo _ _ _) rfl (fun args w => by go_simp) (g_own hd)
    · exact owe_call2 rfl (wants_all rfl) rfl (opnd_op 1 12 (by kernel_rfl) rfl) (opnd_op 3 14 (by kernel_rfl) rfl) (fresh_zn _) rfl (fun args w => by go_simp) (fun w u v h1 h2 => g_zgcdB (by omega) (by omega) w u v ((zo_zv eA (Nat.le_refl _)) _ _ h1) ((zo_zv eB (Nat.le_refl _)) _ _ h2))
    · exact owe_load rfl (wants_all rfl) rfl (k := 0) rfl (by kernel_rfl) (loads_of strct_int shp_zx) rfl
    · exact owe_load rfl (wants_all rfl) rfl (k := 1) rfl (by kernel_rfl) (loads_of strct_int shp_zx) rfl
    · exact owe_call2 rfl (wants_all rfl) rfl (opnd_op 5 16 (by kernel_rfl) rfl) (opnd_op 6 17 (by kernel_rfl) rfl) (fresh_zn _) rfl (fun args w => by go_simp) (fun w u v h1 h2 => g_rzgcdB (by omega) (by omega) w u v ((zx_zv' eA (Nat.le_refl _)) _ _ h1) ((zx_zv' eB (Nat.le_refl _)) _ _ h2))
    · exact owe_call2 rfl (wants_all rfl) rfl (opnd_op 4 15 (by kernel_rfl) rfl) (opnd_op 7 18 (by kernel_rfl) rfl) (fresh_is _) rfl (fun args w => by go_simp) g_eq
    · exact owe_un (x := .tmp 19) rfl (wants_all rfl) rfl (opnd_op 8 19 (by kernel_rfl) rfl) rfl (fun ρ w h1 => run_not ρ _ _ w _ h1)
  intro B2 a2 W2 S2
  replace S2 : Sta w 50 [(2, (.box 24 (Zx s p n c xs))), (3, (.box 24 (Zx t q m d ys)))] [(20, (Is (.bool false))), (4, (Is (.bool false)))] B2 a2 W2 := S2
  refine wp_cond_false (S2.bool 0 20 rfl) ?_
  refine wp_skip ?_
  refine thenN ?_
  refine wp_stmt_seq [.val (Zx s p n c xs),
      .val ((ZO s n xs) w.heap.size),
      .val (Zx t q m d ys),
      .val ((ZO t m ys) w.heap.size),
      .val ((THREE (ZN ((gz A B : Int))) (ZN (bzX A B)) (ZN (fl ((gz A B : Int) - (bzX A B * A)) B))) w.heap.size),
      .val ((THREE (ZN ((gz A B : Int))) (ZN (bzX A B)) (ZN (fl ((gz A B : Int) - (bzX A B * A)) B))) w.heap.size),
      .val ((ZN ((gz A B : Int))) w.heap.size),
      .val ((ZN (bzX A B)) w.heap.size),
      .val ((ZN (fl ((gz A B : Int) - (bzX A B * A)) B)) w.heap.size),
      .new (.box 24 (Is (.agg #[.bool false, .slice none 0 0]))),
      .new (.box 24 (Is (.agg #[.bool false, .slice none 0 0]))),
      .new (.box 24 (Is (.agg #[.bool false, .slice none 0 0]))),
      .put (.inr 9) (.box 24 ((ZN ((gz A B : Int))) w.heap.size)),
      .put (.inr 10) (.box 24 ((ZN (bzX A B)) w.heap.size)),
      .put (.inr 11) (.box 24 ((ZN (fl ((gz A B : Int) - (bzX A B * A)) B)) w.heap.size))] [.inr 0, .inr 1, .inl 9, .inl 10, .inl 11] [.inr 0, .inr 1] follows S2 rfl (by kernel_rfl) ?_ ?_
  · refine ⟨⟨⟨⟨⟨⟨⟨⟨⟨⟨⟨⟨⟨⟨⟨trivial, ?_⟩, ?_⟩, ?_⟩, ?_⟩, ?_⟩, ?_⟩, ?_⟩, ?_⟩, ?_⟩, ?_⟩, ?_⟩, ?_⟩, ?_⟩, ?_⟩, ?_⟩
    · exact owe_load rfl (wants_all rfl) rfl (k := 0) rfl (by kernel_rfl) (loads_of strct_int shp_zx) rfl
    · exact owe_call1 rfl (wants_all rfl) rfl (opnd_op 0 22 (by kernel_rfl) rfl) (fresh_zo _ _ _) rfl (fun args w => by go_simp) (g_own hc)
    · exact owe_load rfl (wants_all rfl) rfl (k := 1) rfl (by kernel_rfl) (loads_of strct_int shp_zx) rfl
    · exact owe_call1 rfl (wants_all rfl) rfl (opnd_op 2 24 (by kernel_rfl) rfl) (fresh_zo _ _ _) rfl (fun args w => by go_simp) (g_own hd)
    · exact owe_call2 rfl (wants_all rfl) rfl (opnd_op 1 23 (by kernel_rfl) rfl) (opnd_op 3 25 (by kernel_rfl) rfl) (fresh_three (fresh_zn _) (fresh_zn _) (fresh_zn _)) rfl (fun args w => by go_simp) (fun w u v h1 h2 => g_zbez hB (by omega) (by omega) w u v ((zo_zv eA (Nat.le_refl _)) _ _ h1) ((zo_zv eB (Nat.le_refl _)) _ _ h2))
    · exact owe_move rfl (wants_all rfl) (Or.inl rfl) (opnd_op 4 26 (by kernel_rfl) rfl) rfl
    · exact owe_ext3 rfl (wants_all rfl) rfl (opnd_op 5 21 (by kernel_rfl) rfl) (Or.inl ⟨rfl, rfl⟩) rfl
    · exact owe_ext3 rfl (wants_all rfl) rfl (opnd_op 5 21 (by kernel_rfl) rfl) (Or.inr (Or.inl ⟨rfl, rfl⟩)) rfl
    · exact owe_ext3 rfl (wants_all rfl) rfl (opnd_op 5 21 (by kernel_rfl) rfl) (Or.inr (Or.inr ⟨rfl, rfl⟩)) rfl
    · exact owe_new rfl (wants_all rfl) rfl rfl (fun ρ w => alloc_int ρ _ w)
    · exact owe_new rfl (wants_all rfl) rfl rfl (fun ρ w => alloc_int ρ _ w)
    · exact owe_new rfl (wants_all rfl) rfl rfl (fun ρ w => alloc_int ρ _ w)
    · exact owe_put 9 rfl (wants_all rfl) rfl (by kernel_rfl) rfl (opnd_op 6 27 (by kernel_rfl) rfl) (stores_of strct_int shp_z0 shp_zn) rfl
    · exact owe_put 10 rfl (wants_all rfl) rfl (by kernel_rfl) rfl (opnd_op 7 28 (by kernel_rfl) rfl) (stores_of strct_int shp_z0 shp_zn) rfl
    · exact owe_put 11 rfl (wants_all rfl) rfl (by kernel_rfl) rfl (opnd_op 8 29 (by kernel_rfl) rfl) (stores_of strct_int shp_z0 shp_zn) rfl
  intro B3 a3 W3 S3
  replace S3 : Sta w 50 [(2, (.box 24 (Zx s p n c xs))), (3, (.box 24 (Zx t q m d ys))), (5, (.box 24 ((ZN ((gz A B : Int))) w.heap.size))), (6, (.box 24 ((ZN (bzX A B)) w.heap.size))), (7, (.box 24 ((ZN (fl ((gz A B : Int) - (bzX A B * A)) B)) w.heap.size)))] [(20, (Is (.bool false))), (4, (Is (.bool false)))] B3 a3 W3 := S3
  refine wp_stmt_seq [.val (Zx s p n c xs),
      .val (Zx t q m d ys),
      .val ((THREE (ZN ((gz A B : Int))) (ZN (bzX A B)) (ZN (fl ((gz A B : Int) - (bzX A B * A)) B))) w.heap.size),
      .val ((THREE (ZN ((gz A B : Int))) (ZN (bzX A B)) (ZN (fl ((gz A B : Int) - (bzX A B * A)) B))) w.heap.size),
      .val ((ZN ((gz A B : Int))) w.heap.size),
      .val ((ZN (bzX A B)) w.heap.size),
      .val ((ZN (fl ((gz A B : Int) - (bzX A B * A)) B)) w.heap.size),
      .new (.box 24 (Is (.agg #[.bool false, .slice none 0 0]))),
      .new (.box 24 (Is (.agg #[.bool false, .slice none 0 0]))),
      .new (.box 24 (Is (.agg #[.bool false, .slice none 0 0]))),
      .put (.inr 7) (.box 24 ((ZN ((gz A B : Int))) w.heap.size)),
      .put (.inr 8) (.box 24 ((ZN (bzX A B)) w.heap.size)),
      .put (.inr 9) (.box 24 ((ZN (fl ((gz A B : Int) - (bzX A B * A)) B)) w.heap.size))] [.inr 0, .inr 1, .inr 2, .inr 3, .inr 4, .inl 7, .inl 8, .inl 9] [.inr 0, .inr 1] follows S3 rfl (by kernel_rfl) ?_ ?_
  · refine ⟨⟨⟨⟨⟨⟨⟨⟨⟨⟨⟨⟨⟨trivial, ?_⟩, ?_⟩, ?_⟩, ?_⟩, ?_⟩, ?_⟩, ?_⟩, ?_⟩, ?_⟩, ?_⟩, ?_⟩, ?_⟩, ?_⟩
    · exact owe_load rfl (wants_all rfl) rfl (k := 0) rfl (by kernel_rfl) (loads_of strct_int shp_zx) rfl
    · exact owe_load rfl (wants_all rfl) rfl (k := 1) rfl (by kernel_rfl) (loads_of strct_int shp_zx) rfl
    · exact owe_call2 rfl (wants_all rfl) rfl (opnd_op 0 31 (by kernel_rfl) rfl) (opnd_op 1 32 (by kernel_rfl) rfl) (fresh_three (fresh_zn _) (fresh_zn _) (fresh_zn _)) rfl (fun args w => by go_simp) (fun w u v h1 h2 => g_rbez hB (by omega) (by omega) w u v ((zx_zv' eA (Nat.le_refl _)) _ _ h1) ((zx_zv' eB (Nat.le_refl _)) _ _ h2))
    · exact owe_move rfl (wants_all rfl) (Or.inl rfl) (opnd_op 2 33 (by kernel_rfl) rfl) rfl
    · exact owe_ext3 rfl (wants_all rfl) rfl (opnd_op 3 30 (by kernel_rfl) rfl) (Or.inl ⟨rfl, rfl⟩) rfl
    · exact owe_ext3 rfl (wants_all rfl) rfl (opnd_op 3 30 (by kernel_rfl) rfl) (Or.inr (Or.inl ⟨rfl, rfl⟩)) rfl
    · exact owe_ext3 rfl (wants_all rfl) rfl (opnd_op 3 30 (by kernel_rfl) rfl) (Or.inr (Or.inr ⟨rfl, rfl⟩)) rfl
    · exact owe_new rfl (wants_all rfl) rfl rfl (fun ρ w => alloc_int ρ _ w)
    · exact owe_new rfl (wants_all rfl) rfl rfl (fun ρ w => alloc_int ρ _ w)
    · exact owe_new rfl (wants_all rfl) rfl rfl (fun ρ w => alloc_int ρ _ w)
    · exact owe_put 7 rfl (wants_all rfl) rfl (by kernel_rfl) rfl (opnd_op 4 34 (by kernel_rfl) rfl) (stores_of strct_int shp_z0 shp_zn) rfl
    · exact owe_put 8 rfl (wants_all rfl) rfl (by kernel_rfl) rfl (opnd_op 5 35 (by kernel_rfl) rfl) (stores_of strct_int shp_z0 shp_zn) rfl
    · exact owe_put 9 rfl (wants_all rfl) rfl (by kernel_rfl) rfl (opnd_op 6 36 (by kernel_rfl) rfl) (stores_of strct_int shp_z0 shp_zn) rfl
  intro B4 a4 W4 S4
  replace S4 : Sta w 50 [(2, (.box 24 (Zx s p n c xs))), (3, (.box 24 (Zx t q m d ys))), (5, (.box 24 ((ZN ((gz A B : Int))) w.heap.size))), (6, (.box 24 ((ZN (bzX A B)) w.heap.size))), (7, (.box 24 ((ZN (fl ((gz A B : Int) - (bzX A B * A)) B)) w.heap.size))), (8, (.box 24 ((ZN ((gz A B : Int))) w.heap.size))), (9, (.box 24 ((ZN (bzX A B)) w.heap.size))), (10, (.box 24 ((ZN (fl ((gz A B : Int) - (bzX A B * A)) B)) w.heap.size)))] [(20, (Is (.bool false))), (4, (Is (.bool false)))] B4 a4 W4 := S4
  refine wp_stmt_seq [.val ((ZN ((gz A B : Int))) w.heap.size),
      .val ((ZN ((gz A B : Int))) w.heap.size),
      .val (Is (.bool true)),
      .val (Is (.bool true)),
      .val ((ZN (bzX A B)) w.heap.size),
      .val ((ZN (bzX A B)) w.heap.size),
      .val (Is (.bool true)),
      .val (Is (.bool true)),
      .val (Is (.bool true)),
      .val ((ZN (fl ((gz A B : Int) - (bzX A B * A)) B)) w.heap.size),
      .val ((ZN (fl ((gz A B : Int) - (bzX A B * A)) B)) w.heap.size),
      .val (Is (.bool true)),
      .val (Is (.bool true)),
      .val (Is (.bool true))] [.inr 0, .inr 1, .inr 2, .inr 3, .inr 4, .inr 5, .inr 6, .inr 7] [.inl 13, .inr 0] follows S4 rfl (by kernel_rfl) ?_ ?_
  · refine ⟨⟨⟨⟨⟨⟨⟨⟨⟨⟨⟨⟨⟨⟨trivial, ?_⟩, ?_⟩, ?_⟩, ?_⟩, ?_⟩, ?_⟩, ?_⟩, ?_⟩, ?_⟩, ?_⟩, ?_⟩, ?_⟩, ?_⟩, ?_⟩
    · exact owe_load rfl (wants_all rfl) rfl (k := 2) rfl (by kernel_rfl) (loads_of strct_int shp_zn) rfl
    · exact owe_load rfl (wants_all rfl) rfl (k := 5) rfl (by kernel_rfl) (loads_of strct_int shp_zn) rfl
    · exact owe_call2 rfl (wants_all rfl) rfl (opnd_op 0 37 (by kernel_rfl) rfl) (opnd_op 1 38 (by kernel_rfl) rfl) (fresh_is _) rfl (fun args w => by go_simp) g_eq
    · exact owe_move rfl (wants_all rfl) (Or.inl rfl) (opnd_op 2 39 (by kernel_rfl) rfl) rfl
    · exact owe_load rfl (wants_if 3 40 rfl (by kernel_rfl) rfl) rfl (k := 3) rfl (by kernel_rfl) (loads_of strct_int shp_zn) rfl
    · exact owe_load rfl (wants_if 3 40 rfl (by kernel_rfl) rfl) rfl (k := 6) rfl (by kernel_rfl) (loads_of strct_int shp_zn) rfl
    · exact owe_call2 rfl (wants_if 3 40 rfl (by kernel_rfl) rfl) rfl (opnd_op 4 41 (by kernel_rfl) rfl) (opnd_op 5 42 (by kernel_rfl) rfl) (fresh_is _) rfl (fun args w => by go_simp) g_eq
    · exact owe_pick rfl (wants_all rfl) rfl (opnd_op 3 40 (by kernel_rfl) rfl) (fun _ => (opnd_op 6 43 (by kernel_rfl) rfl)) (fun h => nomatch h) rfl
    · exact owe_move rfl (wants_all rfl) (Or.inl rfl) (opnd_op 7 44 (by kernel_rfl) rfl) rfl
    · exact owe_load rfl (wants_if 8 45 rfl (by kernel_rfl) rfl) rfl (k := 4) rfl (by kernel_rfl) (loads_of strct_int shp_zn) rfl
    · exact owe_load rfl (wants_if 8 45 rfl (by kernel_rfl) rfl) rfl (k := 7) rfl (by kernel_rfl) (loads_of strct_int shp_zn) rfl
    · exact owe_call2 rfl (wants_if 8 45 rfl (by kernel_rfl) rfl) rfl (opnd_op 9 46 (by kernel_rfl) rfl) (opnd_op 10 47 (by kernel_rfl) rfl) (fresh_is _) rfl (fun args w => by go_simp) g_eq
    · exact owe_pick rfl (wants_all rfl) rfl (opnd_op 8 45 (by kernel_rfl) rfl) (fun _ => (opnd_op 11 48 (by kernel_rfl) rfl)) (fun h => nomatch h) rfl
    · exact owe_move rfl (wants_all rfl) (Or.inr rfl) (opnd_op 12 49 (by kernel_rfl) rfl) rfl
  intro B5 a5 W5 S5
  replace S5 : Sta w 50 [(2, (.box 24 (Zx s p n c xs))), (3, (.box 24 (Zx t q m d ys))), (5, (.box 24 ((ZN ((gz A B : Int))) w.heap.size))), (6, (.box 24 ((ZN (bzX A B)) w.heap.size))), (7, (.box 24 ((ZN (fl ((gz A B : Int) - (bzX A B * A)) B)) w.heap.size))), (8, (.box 24 ((ZN ((gz A B : Int))) w.heap.size))), (9, (.box 24 ((ZN (bzX A B)) w.heap.size))), (10, (.box 24 ((ZN (fl ((gz A B : Int) - (bzX A B * A)) B)) w.heap.size)))] [(4, (Is (.bool true))), (20, (Is (.bool false)))] B5 a5 W5 := S5
  refine wp_ret ?_
  exact end_one S5 rfl (res_tmp S5 0 4 rfl)

theorem zdiv_walk (w : World) (s : Bool) (p : Option Addr) (n c : Nat) (xs : List Nat) (t : Bool) (q : Option Addr) (m d : Nat) (ys : List Nat) (h : Sl w p n c xs) (h' : Sl w q m d ys) (hc : c ≤ 1048576) (hd : d ≤ 1048576) :
    Calls Try.prog 3 #[.agg #[.bool s, .slice p n c], .agg #[.bool t, .slice q m d]] w fun e w' => e = .returned (.bool true) ∧ Below w.heap.size w w' := by
  have h1 := h.cap
  have h2 := h'.cap
  have key : Calls Try.prog 3 #[.agg #[.bool s, .slice p n c], .agg #[.bool t, .slice q m d]] w (Gives (IS (.bool true)) w) := by
    by_cases hB : sg t (val ys) = 0
    · exact zdiv_w0 w s t p q n c m d xs ys h h' (by omega) (by omega) (by omega) (by omega) _ _ rfl rfl hB
    · exact zdiv_w1 w s t p q n c m d xs ys h h' (by omega) (by omega) (by omega) (by omega) _ _ rfl rfl hB
  refine key.mono ?_
  rintro e w' ⟨v, rfl, hb, hv⟩
  obtain rfl : v = _ := hv
  exact ⟨rfl, hb⟩

end Go.Proofs.Ytblmlhhicpomkaa
