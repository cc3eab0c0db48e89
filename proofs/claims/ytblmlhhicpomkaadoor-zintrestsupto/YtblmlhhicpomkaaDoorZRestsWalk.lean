/-
  ZintRests' walk: it returns true and writes nothing that was there.
-/
import Derived.Test.YtblmlhhicpomkaaDoorSetR
import Derived.Test.YtblmlhhicpomkaaDoorBezRests
import Derived.Test.YtblmlhhicpomkaaDoorZAlive
namespace Go.Proofs.YtblmlhhicpomkaaDoor
open Go Go.RowKit Nt
set_option linter.unusedSimpArgs false
set_option linter.unusedVariables false

theorem g_alive : ∀ w, Calls Tryd.prog 4 #[] w (Gives (IS (.bool true)) w) := fun w => by
  refine (alive_c w).mono ?_
  rintro e w' ⟨rfl, hb⟩
  exact ⟨_, rfl, hb, rfl⟩

set_option maxHeartbeats 1000000 in
theorem zrests_w0 (w : World) (s t : Bool) (p q : Option Addr) (n c m d : Nat) (xs ys : List Nat) (h : Sl w p n c xs) (h' : Sl w q m d ys) (hs : n ≤ 1048576) (hs' : m ≤ 1048576) (A B : Int) (eA : sg s (val xs) = A) (eB : sg t (val ys) = B) (hB : B = 0) (hb : B.sign = 0) :
    Calls Tryd.prog 3 #[.agg #[.bool s, .slice p n c], .agg #[.bool t, .slice q m d]] w (Gives (IS (.bool true)) w) := by
  have dA : (digs A.natAbs).length ≤ n := by rw [← eA]; exact sg_dl h
  have dB : (digs B.natAbs).length ≤ m := by rw [← eB]; exact sg_dl h'
  refine calls_sta (sl := [(0, (Zx s p n c xs)), (1, (Zx t q m d ys))]) Tryd.func3 rfl Tryd.ntmps3 (by simp) (args_cons rfl (zx_has h) (args_cons rfl (zx_has h') args_nil)) ?_
  intro a0 S0
  refine wp_stmt_seq [.new (.box 24 (Zx s p n c xs)),
      .new (.box 24 (Zx t q m d ys)),
      .val (Is (.bool false))] [.inl 0, .inl 1] [.inl 2] follows S0 rfl (by kernel_rfl) ?_ ?_
  · refine ⟨⟨⟨trivial, ?_⟩, ?_⟩, ?_⟩
    · exact owe_box rfl (wants_all rfl) rfl (opnd_slot 0 0 rfl (by kernel_rfl)) rfl (fun ρ w h => box_int shp_zx ρ _ _ w h)
    · exact owe_box rfl (wants_all rfl) rfl (opnd_slot 1 1 rfl (by kernel_rfl)) rfl (fun ρ w h => box_int shp_zx ρ _ _ w h)
    · exact owe_move rfl (wants_all rfl) (Or.inr rfl) (opnd_const _) rfl
  intro B1 a1 W1 S1
  replace S1 : Sta w 146 [(2, (.box 24 (Zx s p n c xs))), (3, (.box 24 (Zx t q m d ys)))] [(4, (Is (.bool false)))] B1 a1 W1 := S1
  refine wp_seq ?_
  refine wp_stmt_seq [.val (Is (.bool true)),
      .val (Is (.bool false))] [.inr 0, .inr 1] [.inl 1, .inr 0] follows S1 rfl (by kernel_rfl) ?_ ?_
  · refine ⟨⟨trivial, ?_⟩, ?_⟩
    · exact owe_call0 rfl (wants_all rfl) rfl  (fresh_is _) rfl (fun args w => by go_simp) (fun w => g_alive w)
    · exact owe_un (x := .tmp 18) rfl (wants_all rfl) rfl (opnd_op 0 18 (by kernel_rfl) rfl) rfl (fun ρ w h1 => run_not ρ _ _ w _ h1)
  intro B2 a2 W2 S2
  replace S2 : Sta w 146 [(2, (.box 24 (Zx s p n c xs))), (3, (.box 24 (Zx t q m d ys)))] [(19, (Is (.bool false))), (4, (Is (.bool false)))] B2 a2 W2 := S2
  refine wp_cond_false (S2.bool 0 19 rfl) ?_
  refine wp_skip ?_
  refine thenN ?_
  refine wp_stmt_seq [.val (Zx s p n c xs),
      .val (Zx t q m d ys),
      .val ((THREE (IS (.agg #[.bool false, .slice none 0 0])) (IS (.agg #[.bool false, .slice none 0 0])) (IS (.int .i64 11))) w.heap.size),
      .val ((THREE (IS (.agg #[.bool false, .slice none 0 0])) (IS (.agg #[.bool false, .slice none 0 0])) (IS (.int .i64 11))) w.heap.size),
      .val (Is (.agg #[.bool false, .slice none 0 0])),
      .val (Is (.agg #[.bool false, .slice none 0 0])),
      .val (Is (.int .i64 11)),
      .new (.box 24 (Is (.agg #[.bool false, .slice none 0 0]))),
      .new (.box 24 (Is (.agg #[.bool false, .slice none 0 0]))),
      .put (.inr 7) (.box 24 (Is (.agg #[.bool false, .slice none 0 0]))),
      .put (.inr 8) (.box 24 (Is (.agg #[.bool false, .slice none 0 0]))),
      .val (Is (.int .i64 11))] [.inr 0, .inr 1, .inl 7, .inl 8] [.inl 11, .inr 0, .inr 1] follows S2 rfl (by kernel_rfl) ?_ ?_
  · refine ⟨⟨⟨⟨⟨⟨⟨⟨⟨⟨⟨⟨trivial, ?_⟩, ?_⟩, ?_⟩, ?_⟩, ?_⟩, ?_⟩, ?_⟩, ?_⟩, ?_⟩, ?_⟩, ?_⟩, ?_⟩
    · exact owe_load rfl (wants_all rfl) rfl (k := 0) rfl (by kernel_rfl) (loads_of strct_int shp_zx) rfl
    · exact owe_load rfl (wants_all rfl) rfl (k := 1) rfl (by kernel_rfl) (loads_of strct_int shp_zx) rfl
    · exact owe_call2 rfl (wants_all rfl) rfl (opnd_op 0 21 (by kernel_rfl) rfl) (opnd_op 1 22 (by kernel_rfl) rfl) (fresh_three (fresh_is _) (fresh_is _) (fresh_is _)) rfl (fun args w => by go_simp) (fun w u v h1 h2 => g_zfloor0 hB w u v ((zx_zv' eA (Nat.le_refl _)) _ _ h1) ((zx_zv' eB (Nat.le_refl _)) _ _ h2))
    · exact owe_move rfl (wants_all rfl) (Or.inl rfl) (opnd_op 2 23 (by kernel_rfl) rfl) rfl
    · exact owe_ext3 rfl (wants_all rfl) rfl (opnd_op 3 20 (by kernel_rfl) rfl) (Or.inl ⟨rfl, rfl⟩) rfl
    · exact owe_ext3 rfl (wants_all rfl) rfl (opnd_op 3 20 (by kernel_rfl) rfl) (Or.inr (Or.inl ⟨rfl, rfl⟩)) rfl
    · exact owe_ext3 rfl (wants_all rfl) rfl (opnd_op 3 20 (by kernel_rfl) rfl) (Or.inr (Or.inr ⟨rfl, rfl⟩)) rfl
    · exact owe_new rfl (wants_all rfl) rfl rfl (fun ρ w => alloc_int ρ _ w)
    · exact owe_new rfl (wants_all rfl) rfl rfl (fun ρ w => alloc_int ρ _ w)
    · exact owe_put 7 rfl (wants_all rfl) rfl (by kernel_rfl) rfl (opnd_op 4 24 (by kernel_rfl) rfl) (stores_of strct_int shp_z0 shp_z0) rfl
    · exact owe_put 8 rfl (wants_all rfl) rfl (by kernel_rfl) rfl (opnd_op 5 25 (by kernel_rfl) rfl) (stores_of strct_int shp_z0 shp_z0) rfl
    · exact owe_move rfl (wants_all rfl) (Or.inr rfl) (opnd_op 6 26 (by kernel_rfl) rfl) rfl
  intro B3 a3 W3 S3
  replace S3 : Sta w 146 [(2, (.box 24 (Zx s p n c xs))), (3, (.box 24 (Zx t q m d ys))), (5, (.box 24 (Is (.agg #[.bool false, .slice none 0 0])))), (6, (.box 24 (Is (.agg #[.bool false, .slice none 0 0]))))] [(7, (Is (.int .i64 11))), (19, (Is (.bool false))), (4, (Is (.bool false)))] B3 a3 W3 := S3
  refine wp_stmt_seq [.val (Zx s p n c xs),
      .val (Zx t q m d ys),
      .val ((TWO (IS (.agg #[.bool false, .slice none 0 0])) (IS (.int .i64 11))) w.heap.size),
      .val ((TWO (IS (.agg #[.bool false, .slice none 0 0])) (IS (.int .i64 11))) w.heap.size),
      .val (Is (.agg #[.bool false, .slice none 0 0])),
      .val (Is (.int .i64 11)),
      .new (.box 24 (Is (.agg #[.bool false, .slice none 0 0]))),
      .put (.inr 6) (.box 24 (Is (.agg #[.bool false, .slice none 0 0]))),
      .val (Is (.int .i64 11))] [.inr 0, .inr 1, .inr 2, .inr 3, .inl 6] [.inl 8, .inr 0, .inr 1, .inr 2] follows S3 rfl (by kernel_rfl) ?_ ?_
  · refine ⟨⟨⟨⟨⟨⟨⟨⟨⟨trivial, ?_⟩, ?_⟩, ?_⟩, ?_⟩, ?_⟩, ?_⟩, ?_⟩, ?_⟩, ?_⟩
    · exact owe_load rfl (wants_all rfl) rfl (k := 0) rfl (by kernel_rfl) (loads_of strct_int shp_zx) rfl
    · exact owe_load rfl (wants_all rfl) rfl (k := 1) rfl (by kernel_rfl) (loads_of strct_int shp_zx) rfl
    · exact owe_call2 rfl (wants_all rfl) rfl (opnd_op 0 28 (by kernel_rfl) rfl) (opnd_op 1 29 (by kernel_rfl) rfl) (fresh_two (fresh_is _) (fresh_is _)) rfl (fun args w => by go_simp) (fun w u v h1 h2 => g_znear0 hB w u v ((zx_zv' eA (Nat.le_refl _)) _ _ h1) ((zx_zv' eB (Nat.le_refl _)) _ _ h2))
    · exact owe_move rfl (wants_all rfl) (Or.inl rfl) (opnd_op 2 30 (by kernel_rfl) rfl) rfl
    · exact owe_ext2 rfl (wants_all rfl) rfl (opnd_op 3 27 (by kernel_rfl) rfl) (Or.inl ⟨rfl, rfl⟩) rfl
    · exact owe_ext2 rfl (wants_all rfl) rfl (opnd_op 3 27 (by kernel_rfl) rfl) (Or.inr ⟨rfl, rfl⟩) rfl
    · exact owe_new rfl (wants_all rfl) rfl rfl (fun ρ w => alloc_int ρ _ w)
    · exact owe_put 6 rfl (wants_all rfl) rfl (by kernel_rfl) rfl (opnd_op 4 31 (by kernel_rfl) rfl) (stores_of strct_int shp_z0 shp_z0) rfl
    · exact owe_move rfl (wants_all rfl) (Or.inr rfl) (opnd_op 5 32 (by kernel_rfl) rfl) rfl
  intro B4 a4 W4 S4
  replace S4 : Sta w 146 [(2, (.box 24 (Zx s p n c xs))), (3, (.box 24 (Zx t q m d ys))), (5, (.box 24 (Is (.agg #[.bool false, .slice none 0 0])))), (6, (.box 24 (Is (.agg #[.bool false, .slice none 0 0])))), (8, (.box 24 (Is (.agg #[.bool false, .slice none 0 0]))))] [(9, (Is (.int .i64 11))), (7, (Is (.int .i64 11))), (19, (Is (.bool false))), (4, (Is (.bool false)))] B4 a4 W4 := S4
  refine wp_seq ?_
  refine wp_stmt_seq [.val (Zx t q m d ys),
      .val (Is (.int .i64 (B).sign)),
      .val (Is (.bool true))] [.inr 0, .inr 1, .inr 2, .inr 3, .inr 4] [.inl 2, .inr 0, .inr 1, .inr 2, .inr 3] follows S4 rfl (by kernel_rfl) ?_ ?_
  · refine ⟨⟨⟨trivial, ?_⟩, ?_⟩, ?_⟩
    · exact owe_load rfl (wants_all rfl) rfl (k := 1) rfl (by kernel_rfl) (loads_of strct_int shp_zx) rfl
    · exact owe_call1 rfl (wants_all rfl) rfl (opnd_op 0 33 (by kernel_rfl) rfl) (fresh_is _) rfl (fun args w => by go_simp) (fun w u h1 => g_zsignB (by omega) w u ((zx_zv' eB (Nat.le_refl _)) _ _ h1))
    · exact owe_bin rfl (wants_all rfl) rfl (opnd_op 1 34 (by kernel_rfl) rfl) (opnd_const _) rfl (fun ρ w h1 h2 => by exact run_eql_int_t ρ _ _ _ w _ _ hb h1 h2)
  intro B5 a5 W5 S5
  replace S5 : Sta w 146 [(2, (.box 24 (Zx s p n c xs))), (3, (.box 24 (Zx t q m d ys))), (5, (.box 24 (Is (.agg #[.bool false, .slice none 0 0])))), (6, (.box 24 (Is (.agg #[.bool false, .slice none 0 0])))), (8, (.box 24 (Is (.agg #[.bool false, .slice none 0 0]))))] [(35, (Is (.bool true))), (9, (Is (.int .i64 11))), (7, (Is (.int .i64 11))), (19, (Is (.bool false))), (4, (Is (.bool false)))] B5 a5 W5 := S5
  refine wp_cond_true (S5.bool 0 35 rfl) ?_
  refine wp_stmt_seq [.val (Is (.int .i64 11)),
      .val (Is (.bool true)),
      .val (Is (.bool true)),
      .val (Is (.int .i64 11)),
      .val (Is (.bool true)),
      .val (Is (.bool true)),
      .val (Is (.bool true))] [.inr 0, .inr 1, .inr 2, .inr 3, .inr 4] [.inl 6, .inr 0, .inr 1, .inr 2, .inr 3] follows S5 rfl (by kernel_rfl) ?_ ?_
  · refine ⟨⟨⟨⟨⟨⟨⟨trivial, ?_⟩, ?_⟩, ?_⟩, ?_⟩, ?_⟩, ?_⟩, ?_⟩
    · exact owe_move rfl (wants_all rfl) (Or.inl rfl) (opnd_slot 2 7 rfl (by kernel_rfl)) rfl
    · exact owe_bin rfl (wants_all rfl) rfl (opnd_op 0 36 (by kernel_rfl) rfl) (opnd_const _) rfl (fun ρ w h1 h2 => by exact run_neq_errno_t ρ _ _ _ w _ _ (by decide) h1 h2)
    · exact owe_move rfl (wants_all rfl) (Or.inl rfl) (opnd_op 1 37 (by kernel_rfl) rfl) rfl
    · exact owe_move rfl (wants_if 2 38 rfl (by kernel_rfl) rfl) (Or.inl rfl) (opnd_slot 1 9 rfl (by kernel_rfl)) rfl
    · exact owe_bin rfl (wants_if 2 38 rfl (by kernel_rfl) rfl) rfl (opnd_op 3 39 (by kernel_rfl) rfl) (opnd_const _) rfl (fun ρ w h1 h2 => by exact run_neq_errno_t ρ _ _ _ w _ _ (by decide) h1 h2)
    · exact owe_pick rfl (wants_all rfl) rfl (opnd_op 2 38 (by kernel_rfl) rfl) (fun _ => (opnd_op 4 40 (by kernel_rfl) rfl)) (fun h => nomatch h) rfl
    · exact owe_move rfl (wants_all rfl) (Or.inr rfl) (opnd_op 5 41 (by kernel_rfl) rfl) rfl
  intro B6 a6 W6 S6
  replace S6 : Sta w 146 [(2, (.box 24 (Zx s p n c xs))), (3, (.box 24 (Zx t q m d ys))), (5, (.box 24 (Is (.agg #[.bool false, .slice none 0 0])))), (6, (.box 24 (Is (.agg #[.bool false, .slice none 0 0])))), (8, (.box 24 (Is (.agg #[.bool false, .slice none 0 0]))))] [(4, (Is (.bool true))), (35, (Is (.bool true))), (9, (Is (.int .i64 11))), (7, (Is (.int .i64 11))), (19, (Is (.bool false)))] B6 a6 W6 := S6
  refine wp_ret ?_
  refine thenR ?_
  exact end_one S6 rfl (res_tmp S6 0 4 rfl)

set_option maxHeartbeats 1000000 in
theorem zrests_w1 (w : World) (s t : Bool) (p q : Option Addr) (n c m d : Nat) (xs ys : List Nat) (h : Sl w p n c xs) (h' : Sl w q m d ys) (hs : n ≤ 1048576) (hs' : m ≤ 1048576) (A B : Int) (eA : sg s (val xs) = A) (eB : sg t (val ys) = B) (hB : B ≠ 0) (hb : B.sign ≠ 0) (hr : rm A B = 0) :
    Calls Tryd.prog 3 #[.agg #[.bool s, .slice p n c], .agg #[.bool t, .slice q m d]] w (Gives (IS (.bool true)) w) := by
  have dA : (digs A.natAbs).length ≤ n := by rw [← eA]; exact sg_dl h
  have dB : (digs B.natAbs).length ≤ m := by rw [← eB]; exact sg_dl h'
  have rb := rm_bounds (A := A) hB
  have bp := bez_any (A := A) hB
  have hE := bz_dvd hB bp
  have hgp : (gz A B : Int) ≠ 0 := by have := gz_ne (A := A) hB; omega
  have r1 := rm_dvd hgp (gz_dvd A B).1
  have r2 := rm_dvd hgp (gz_dvd A B).2
  have hsum := bez_sum hB hE
  have hoff := near_off (A := A) hB
  have hsm := rm_small (A := A) hB
  have hgD : gz A B ≤ B.natAbs := Nat.le_of_dvd (by omega) (Nat.gcd_dvd_right _ _)
  have dG : (digs ((gz A B : Int)).natAbs).length ≤ m := by rw [Int.natAbs_natCast]; exact Nat.le_trans (digs_length_mono hgD) dB
  have hXD : (bzX A B).natAbs ≤ B.natAbs := by
    have h1 := bp.1
    have h2 := bp.2.1
    have h3 : bzX A B * 1 ≤ bzX A B * (gz A B : Int) := Int.mul_le_mul_of_nonneg_left (by have := gz_ne (A := A) hB; omega) h1
    omega
  have dX : (digs (bzX A B).natAbs).length ≤ m := Nat.le_trans (digs_length_mono hXD) dB
  have dXA : (digs (bzX A B * A).natAbs).length ≤ m + n := dl_mul dX dA
  have dS : (digs ((gz A B : Int) - bzX A B * A).natAbs).length ≤ m + n + 1 := dl_sub (Nat.le_trans dG (by omega)) dXA
  have dF := fl_len hB dS
  have dFB : (digs (fl ((gz A B : Int) - bzX A B * A) B * B).natAbs).length ≤ m + n + 1 + 1 + m := dl_mul dF dB
  have dq := fl_len hB dA
  have dqB : (digs (fl A B * B).natAbs).length ≤ n + 1 + m := dl_mul dq dB
  have dr : (digs (rm A B).natAbs).length ≤ m := Nat.le_trans (digs_length_mono (by omega)) dB
  have drn : (digs (((rm A B).natAbs : Nat) : Int).natAbs).length ≤ m := by rw [Int.natAbs_natCast]; exact dr
  have dBn : (digs (((B).natAbs : Nat) : Int).natAbs).length ≤ m := by rw [Int.natAbs_natCast]; exact dB
  have d2A : (digs (2 * A + B).natAbs).length ≤ 1 + n + m + 1 := dl_add (Nat.le_trans (dl_mul (k := 1) (show (digs (2 : Int).natAbs).length ≤ 1 by decide) dA) (by omega)) (Nat.le_trans dB (by omega))
  have dn : (digs (nr A B).natAbs).length ≤ 1 + n + m + 1 + 1 := fl_len (by omega) d2A
  have dnB : (digs (nr A B * B).natAbs).length ≤ 1 + n + m + 1 + 1 + m := dl_mul dn dB
  have dnS : (digs (nr A B * B - A).natAbs).length ≤ 1 + n + m + 1 + 1 + m + 1 := dl_sub dnB (Nat.le_trans dA (by omega))
  have dnN : (digs (((nr A B * B - A).natAbs : Nat) : Int).natAbs).length ≤ 1 + n + m + 1 + 1 + m + 1 := by rw [Int.natAbs_natCast]; exact dnS
  have d2n : (digs (2 * (((nr A B * B - A).natAbs : Nat) : Int)).natAbs).length ≤ 1 + (1 + n + m + 1 + 1 + m + 1) := dl_mul (k := 1) (show (digs (2 : Int).natAbs).length ≤ 1 by decide) dnN
  have dXG : (digs (bzX A B * (gz A B : Int)).natAbs).length ≤ m + m := dl_mul dX dG
  have dtw : (digs (2 : Int).natAbs).length ≤ 1 := by decide
  refine calls_sta (sl := [(0, (Zx s p n c xs)), (1, (Zx t q m d ys))]) Tryd.func3 rfl Tryd.ntmps3 (by simp) (args_cons rfl (zx_has h) (args_cons rfl (zx_has h') args_nil)) ?_
  intro a0 S0
  refine wp_stmt_seq [.new (.box 24 (Zx s p n c xs)),
      .new (.box 24 (Zx t q m d ys)),
      .val (Is (.bool false))] [.inl 0, .inl 1] [.inl 2] follows S0 rfl (by kernel_rfl) ?_ ?_
  · refine ⟨⟨⟨trivial, ?_⟩, ?_⟩, ?_⟩
    · exact owe_box rfl (wants_all rfl) rfl (opnd_slot 0 0 rfl (by kernel_rfl)) rfl (fun ρ w h => box_int shp_zx ρ _ _ w h)
    · exact owe_box rfl (wants_all rfl) rfl (opnd_slot 1 1 rfl (by kernel_rfl)) rfl (fun ρ w h => box_int shp_zx ρ _ _ w h)
    · exact owe_move rfl (wants_all rfl) (Or.inr rfl) (opnd_const _) rfl
  intro B1 a1 W1 S1
  replace S1 : Sta w 146 [(2, (.box 24 (Zx s p n c xs))), (3, (.box 24 (Zx t q m d ys)))] [(4, (Is (.bool false)))] B1 a1 W1 := S1
  refine wp_seq ?_
  refine wp_stmt_seq [.val (Is (.bool true)),
      .val (Is (.bool false))] [.inr 0, .inr 1] [.inl 1, .inr 0] follows S1 rfl (by kernel_rfl) ?_ ?_
  · refine ⟨⟨trivial, ?_⟩, ?_⟩
    · exact owe_call0 rfl (wants_all rfl) rfl  (fresh_is _) rfl (fun args w => by go_simp) (fun w => g_alive w)
    · exact owe_un (x := .tmp 18) rfl (wants_all rfl) rfl (opnd_op 0 18 (by kernel_rfl) rfl) rfl (fun ρ w h1 => run_not ρ _ _ w _ h1)
  intro B2 a2 W2 S2
  replace S2 : Sta w 146 [(2, (.box 24 (Zx s p n c xs))), (3, (.box 24 (Zx t q m d ys)))] [(19, (Is (.bool false))), (4, (Is (.bool false)))] B2 a2 W2 := S2
  refine wp_cond_false (S2.bool 0 19 rfl) ?_
  refine wp_skip ?_
  refine thenN ?_
  refine wp_stmt_seq [.val (Zx s p n c xs),
      .val (Zx t q m d ys),
      .val ((THREE (ZN (fl A B)) (ZN (rm A B)) (IS (.int .i64 0))) w.heap.size),
      .val ((THREE (ZN (fl A B)) (ZN (rm A B)) (IS (.int .i64 0))) w.heap.size),
      .val ((ZN (fl A B)) w.heap.size),
      .val ((ZN (rm A B)) w.heap.size),
      .val (Is (.int .i64 0)),
      .new (.box 24 (Is (.agg #[.bool false, .slice none 0 0]))),
      .new (.box 24 (Is (.agg #[.bool false, .slice none 0 0]))),
      .put (.inr 7) (.box 24 ((ZN (fl A B)) w.heap.size)),
      .put (.inr 8) (.box 24 ((ZN (rm A B)) w.heap.size)),
      .val (Is (.int .i64 0))] [.inr 0, .inr 1, .inl 7, .inl 8] [.inl 11, .inr 0, .inr 1] follows S2 rfl (by kernel_rfl) ?_ ?_
  · refine ⟨⟨⟨⟨⟨⟨⟨⟨⟨⟨⟨⟨trivial, ?_⟩, ?_⟩, ?_⟩, ?_⟩, ?_⟩, ?_⟩, ?_⟩, ?_⟩, ?_⟩, ?_⟩, ?_⟩, ?_⟩
    · exact owe_load rfl (wants_all rfl) rfl (k := 0) rfl (by kernel_rfl) (loads_of strct_int shp_zx) rfl
    · exact owe_load rfl (wants_all rfl) rfl (k := 1) rfl (by kernel_rfl) (loads_of strct_int shp_zx) rfl
    · exact owe_call2 rfl (wants_all rfl) rfl (opnd_op 0 21 (by kernel_rfl) rfl) (opnd_op 1 22 (by kernel_rfl) rfl) (fresh_three (fresh_zn _) (fresh_zn _) (fresh_is _)) rfl (fun args w => by go_simp) (fun w u v h1 h2 => g_zfloor hB (by omega) (by omega) w u v ((zx_zv' eA (Nat.le_refl _)) _ _ h1) ((zx_zv' eB (Nat.le_refl _)) _ _ h2))
    · exact owe_move rfl (wants_all rfl) (Or.inl rfl) (opnd_op 2 23 (by kernel_rfl) rfl) rfl
    · exact owe_ext3 rfl (wants_all rfl) rfl (opnd_op 3 20 (by kernel_rfl) rfl) (Or.inl ⟨rfl, rfl⟩) rfl
    · exact owe_ext3 rfl (wants_all rfl) rfl (opnd_op 3 20 (by kernel_rfl) rfl) (Or.inr (Or.inl ⟨rfl, rfl⟩)) rfl
    · exact owe_ext3 rfl (wants_all rfl) rfl (opnd_op 3 20 (by kernel_rfl) rfl) (Or.inr (Or.inr ⟨rfl, rfl⟩)) rfl
    · exact owe_new rfl (wants_all rfl) rfl rfl (fun ρ w => alloc_int ρ _ w)
    · exact owe_new rfl (wants_all rfl) rfl rfl (fun ρ w => alloc_int ρ _ w)
    · exact owe_put 7 rfl (wants_all rfl) rfl (by kernel_rfl) rfl (opnd_op 4 24 (by kernel_rfl) rfl) (stores_of strct_int shp_z0 shp_zn) rfl
    · exact owe_put 8 rfl (wants_all rfl) rfl (by kernel_rfl) rfl (opnd_op 5 25 (by kernel_rfl) rfl) (stores_of strct_int shp_z0 shp_zn) rfl
    · exact owe_move rfl (wants_all rfl) (Or.inr rfl) (opnd_op 6 26 (by kernel_rfl) rfl) rfl
  intro B3 a3 W3 S3
  replace S3 : Sta w 146 [(2, (.box 24 (Zx s p n c xs))), (3, (.box 24 (Zx t q m d ys))), (5, (.box 24 ((ZN (fl A B)) w.heap.size))), (6, (.box 24 ((ZN (rm A B)) w.heap.size)))] [(7, (Is (.int .i64 0))), (19, (Is (.bool false))), (4, (Is (.bool false)))] B3 a3 W3 := S3
  refine wp_stmt_seq [.val (Zx s p n c xs),
      .val (Zx t q m d ys),
      .val ((TWO (ZN (nr A B)) (IS (.int .i64 0))) w.heap.size),
      .val ((TWO (ZN (nr A B)) (IS (.int .i64 0))) w.heap.size),
      .val ((ZN (nr A B)) w.heap.size),
      .val (Is (.int .i64 0)),
      .new (.box 24 (Is (.agg #[.bool false, .slice none 0 0]))),
      .put (.inr 6) (.box 24 ((ZN (nr A B)) w.heap.size)),
      .val (Is (.int .i64 0))] [.inr 0, .inr 1, .inr 2, .inr 3, .inl 6] [.inl 8, .inr 0, .inr 1, .inr 2] follows S3 rfl (by kernel_rfl) ?_ ?_
  · refine ⟨⟨⟨⟨⟨⟨⟨⟨⟨trivial, ?_⟩, ?_⟩, ?_⟩, ?_⟩, ?_⟩, ?_⟩, ?_⟩, ?_⟩, ?_⟩
    · exact owe_load rfl (wants_all rfl) rfl (k := 0) rfl (by kernel_rfl) (loads_of strct_int shp_zx) rfl
    · exact owe_load rfl (wants_all rfl) rfl (k := 1) rfl (by kernel_rfl) (loads_of strct_int shp_zx) rfl
    · exact owe_call2 rfl (wants_all rfl) rfl (opnd_op 0 28 (by kernel_rfl) rfl) (opnd_op 1 29 (by kernel_rfl) rfl) (fresh_two (fresh_zn _) (fresh_is _)) rfl (fun args w => by go_simp) (fun w u v h1 h2 => g_znear hB (by omega) w u v ((zx_zv' eA (Nat.le_refl _)) _ _ h1) ((zx_zv' eB (Nat.le_refl _)) _ _ h2))
    · exact owe_move rfl (wants_all rfl) (Or.inl rfl) (opnd_op 2 30 (by kernel_rfl) rfl) rfl
    · exact owe_ext2 rfl (wants_all rfl) rfl (opnd_op 3 27 (by kernel_rfl) rfl) (Or.inl ⟨rfl, rfl⟩) rfl
    · exact owe_ext2 rfl (wants_all rfl) rfl (opnd_op 3 27 (by kernel_rfl) rfl) (Or.inr ⟨rfl, rfl⟩) rfl
    · exact owe_new rfl (wants_all rfl) rfl rfl (fun ρ w => alloc_int ρ _ w)
    · exact owe_put 6 rfl (wants_all rfl) rfl (by kernel_rfl) rfl (opnd_op 4 31 (by kernel_rfl) rfl) (stores_of strct_int shp_z0 shp_zn) rfl
    · exact owe_move rfl (wants_all rfl) (Or.inr rfl) (opnd_op 5 32 (by kernel_rfl) rfl) rfl
  intro B4 a4 W4 S4
  replace S4 : Sta w 146 [(2, (.box 24 (Zx s p n c xs))), (3, (.box 24 (Zx t q m d ys))), (5, (.box 24 ((ZN (fl A B)) w.heap.size))), (6, (.box 24 ((ZN (rm A B)) w.heap.size))), (8, (.box 24 ((ZN (nr A B)) w.heap.size)))] [(9, (Is (.int .i64 0))), (7, (Is (.int .i64 0))), (19, (Is (.bool false))), (4, (Is (.bool false)))] B4 a4 W4 := S4
  refine wp_seq ?_
  refine wp_stmt_seq [.val (Zx t q m d ys),
      .val (Is (.int .i64 (B).sign)),
      .val (Is (.bool false))] [.inr 0, .inr 1, .inr 2, .inr 3, .inr 4] [.inl 2, .inr 0, .inr 1, .inr 2, .inr 3] follows S4 rfl (by kernel_rfl) ?_ ?_
  · refine ⟨⟨⟨trivial, ?_⟩, ?_⟩, ?_⟩
    · exact owe_load rfl (wants_all rfl) rfl (k := 1) rfl (by kernel_rfl) (loads_of strct_int shp_zx) rfl
    · exact owe_call1 rfl (wants_all rfl) rfl (opnd_op 0 33 (by kernel_rfl) rfl) (fresh_is _) rfl (fun args w => by go_simp) (fun w u h1 => g_zsignB (by omega) w u ((zx_zv' eB (Nat.le_refl _)) _ _ h1))
    · exact owe_bin rfl (wants_all rfl) rfl (opnd_op 1 34 (by kernel_rfl) rfl) (opnd_const _) rfl (fun ρ w h1 h2 => by exact run_eql_int_f ρ _ _ _ w _ _ hb h1 h2)
  intro B5 a5 W5 S5
  replace S5 : Sta w 146 [(2, (.box 24 (Zx s p n c xs))), (3, (.box 24 (Zx t q m d ys))), (5, (.box 24 ((ZN (fl A B)) w.heap.size))), (6, (.box 24 ((ZN (rm A B)) w.heap.size))), (8, (.box 24 ((ZN (nr A B)) w.heap.size)))] [(35, (Is (.bool false))), (9, (Is (.int .i64 0))), (7, (Is (.int .i64 0))), (19, (Is (.bool false))), (4, (Is (.bool false)))] B5 a5 W5 := S5
  refine wp_cond_false (S5.bool 0 35 rfl) ?_
  refine wp_skip ?_
  refine thenN ?_
  refine wp_seq ?_
  refine wp_stmt_seq [.val (Is (.int .i64 0)),
      .val (Is (.bool false)),
      .val (Is (.bool false)),
      .val (Is (.int .i64 0)),
      .val (Is (.bool false)),
      .val (Is (.bool false)),
      .val (Is (.bool false)),
      .val ((ZN (fl A B)) w.heap.size),
      .val (Zx t q m d ys),
      .val ((ZN ((fl A B) * B)) w.heap.size),
      .val ((ZN (rm A B)) w.heap.size),
      .val ((ZN (A)) w.heap.size),
      .val (Zx s p n c xs),
      .val ((ZN (A)) w.heap.size),
      .val (Is (.bool true)),
      .val (Is (.bool false)),
      .val (Is (.bool false)),
      .val (Is (.bool false)),
      .val ((ZN (rm A B)) w.heap.size),
      .val (Is (.int .i64 (rm A B).sign)),
      .val (Is (.bool false)),
      .val (Is (.bool false)),
      .off,
      .off,
      .off,
      .off,
      .off,
      .val (Is (.bool false)),
      .val (Is (.bool false)),
      .val (Is (.bool false)),
      .val ((ZN (rm A B)) w.heap.size),
      .val ((ZN (((rm A B).natAbs : Int))) w.heap.size),
      .val (Zx t q m d ys),
      .val ((ZN (((B).natAbs : Int))) w.heap.size),
      .val (Is (.int .i64 ((((rm A B).natAbs : Int)) - (((B).natAbs : Int))).sign)),
      .val (Is (.bool false)),
      .val (Is (.bool false))] [.inr 0, .inr 1, .inr 2, .inr 3, .inr 4] [.inl 36, .inr 0, .inr 1, .inr 2, .inr 3, .inr 4] follows S5 rfl (by kernel_rfl) ?_ ?_
  · refine ⟨⟨⟨⟨⟨⟨⟨⟨⟨⟨⟨⟨⟨⟨⟨⟨⟨⟨⟨⟨⟨⟨⟨⟨⟨⟨⟨⟨⟨⟨⟨⟨⟨⟨⟨⟨⟨trivial, ?_⟩, ?_⟩, ?_⟩, ?_⟩, ?_⟩, ?_⟩, ?_⟩, ?_⟩, ?_⟩, ?_⟩, ?_⟩, ?_⟩, ?_⟩, ?_⟩, ?_⟩, ?_⟩, ?_⟩, ?_⟩, ?_⟩, ?_⟩, ?_⟩, ?_⟩, ?_⟩, ?_⟩, ?_⟩, ?_⟩, ?_⟩, ?_⟩, ?_⟩, ?_⟩, ?_⟩, ?_⟩, ?_⟩, ?_⟩, ?_⟩, ?_⟩, ?_⟩
    · exact owe_move rfl (wants_all rfl) (Or.inl rfl) (opnd_slot 2 7 rfl (by kernel_rfl)) rfl
    · exact owe_bin rfl (wants_all rfl) rfl (opnd_op 0 42 (by kernel_rfl) rfl) (opnd_const _) rfl (fun ρ w h1 h2 => by exact run_neq_errno_f ρ _ _ _ w _ _ rfl h1 h2)
    · exact owe_move rfl (wants_all rfl) (Or.inl rfl) (opnd_op 1 43 (by kernel_rfl) rfl) rfl
    · exact owe_move rfl (wants_if 2 44 rfl (by kernel_rfl) rfl) (Or.inl rfl) (opnd_slot 1 9 rfl (by kernel_rfl)) rfl
    · exact owe_bin rfl (wants_if 2 44 rfl (by kernel_rfl) rfl) rfl (opnd_op 3 45 (by kernel_rfl) rfl) (opnd_const _) rfl (fun ρ w h1 h2 => by exact run_neq_errno_f ρ _ _ _ w _ _ rfl h1 h2)
    · exact owe_pick rfl (wants_all rfl) rfl (opnd_op 2 44 (by kernel_rfl) rfl) (fun h => nomatch h) (fun _ => (opnd_op 4 46 (by kernel_rfl) rfl)) rfl
    · exact owe_move rfl (wants_all rfl) (Or.inl rfl) (opnd_op 5 47 (by kernel_rfl) rfl) rfl
    · exact owe_load rfl (wants_if 6 48 rfl (by kernel_rfl) rfl) rfl (k := 2) rfl (by kernel_rfl) (loads_of strct_int shp_zn) rfl
    · exact owe_load rfl (wants_if 6 48 rfl (by kernel_rfl) rfl) rfl (k := 1) rfl (by kernel_rfl) (loads_of strct_int shp_zx) rfl
    · exact owe_call2 rfl (wants_if 6 48 rfl (by kernel_rfl) rfl) rfl (opnd_op 7 49 (by kernel_rfl) rfl) (opnd_op 8 50 (by kernel_rfl) rfl) (fresh_zn _) rfl (fun args w => by go_simp) (fun w u v h1 h2 => g_zmul (by omega) w u v ((zn_zv dq) _ _ h1) ((zx_zv' eB (Nat.le_refl _)) _ _ h2))
    · exact owe_load rfl (wants_if 6 48 rfl (by kernel_rfl) rfl) rfl (k := 3) rfl (by kernel_rfl) (loads_of strct_int shp_zn) rfl
    · exact owe_call2 rfl (wants_if 6 48 rfl (by kernel_rfl) rfl) rfl (opnd_op 9 51 (by kernel_rfl) rfl) (opnd_op 10 52 (by kernel_rfl) rfl) (fresh_zn _) rfl (fun args w => by go_simp) (fun w u0 u1 h0 h1 => Gives.cast ((fun w u v h1 h2 => g_zadd (by omega) (by omega) w u v ((zn_zv dqB) _ _ h1) ((zn_zv dr) _ _ h2)) w u0 u1 h0 h1) (by rw [← rb.1]))
    · exact owe_load rfl (wants_if 6 48 rfl (by kernel_rfl) rfl) rfl (k := 0) rfl (by kernel_rfl) (loads_of strct_int shp_zx) rfl
    · exact owe_call1 rfl (wants_if 6 48 rfl (by kernel_rfl) rfl) rfl (opnd_op 12 54 (by kernel_rfl) rfl) (fresh_zn _) rfl (fun args w => by go_simp) (fun w u h1 => g_zformB (by omega) w u ((zx_zv' eA (Nat.le_refl _)) _ _ h1))
    · exact owe_call2 rfl (wants_if 6 48 rfl (by kernel_rfl) rfl) rfl (opnd_op 11 53 (by kernel_rfl) rfl) (opnd_op 13 55 (by kernel_rfl) rfl) (fresh_is _) rfl (fun args w => by go_simp) g_eq
    · exact owe_un (x := .tmp 56) rfl (wants_if 6 48 rfl (by kernel_rfl) rfl) rfl (opnd_op 14 56 (by kernel_rfl) rfl) rfl (fun ρ w h1 => run_not ρ _ _ w _ h1)
    · exact owe_pick rfl (wants_all rfl) rfl (opnd_op 6 48 (by kernel_rfl) rfl) (fun h => nomatch h) (fun _ => (opnd_op 15 57 (by kernel_rfl) rfl)) rfl
    · exact owe_move rfl (wants_all rfl) (Or.inl rfl) (opnd_op 16 58 (by kernel_rfl) rfl) rfl
    · exact owe_load rfl (wants_if 17 59 rfl (by kernel_rfl) rfl) rfl (k := 3) rfl (by kernel_rfl) (loads_of strct_int shp_zn) rfl
    · exact owe_call1 rfl (wants_if 17 59 rfl (by kernel_rfl) rfl) rfl (opnd_op 18 60 (by kernel_rfl) rfl) (fresh_is _) rfl (fun args w => by go_simp) (fun w u h1 => g_zsignB (by omega) w u ((zn_zv dr) _ _ h1))
    · exact owe_bin rfl (wants_if 17 59 rfl (by kernel_rfl) rfl) rfl (opnd_op 19 61 (by kernel_rfl) rfl) (opnd_const _) rfl (fun ρ w h1 h2 => by exact run_neq_int_f ρ _ _ _ w _ _ (by rw [hr]; rfl) h1 h2)
    · exact owe_move rfl (wants_if 17 59 rfl (by kernel_rfl) rfl) (Or.inl rfl) (opnd_op 20 62 (by kernel_rfl) rfl) rfl
    · exact owe_off 21 63 rfl rfl rfl (by kernel_rfl) rfl (by decide)
    · exact owe_off 21 63 rfl rfl rfl (by kernel_rfl) rfl (by decide)
    · exact owe_off 21 63 rfl rfl rfl (by kernel_rfl) rfl (by decide)
    · exact owe_off 21 63 rfl rfl rfl (by kernel_rfl) rfl (by decide)
    · exact owe_off 21 63 rfl rfl rfl (by kernel_rfl) rfl (by decide)
    · exact owe_pick rfl (wants_if 17 59 rfl (by kernel_rfl) rfl) rfl (opnd_op 21 63 (by kernel_rfl) rfl) (fun h => nomatch h) (fun _ => (opnd_const _)) rfl
    · exact owe_pick rfl (wants_all rfl) rfl (opnd_op 17 59 (by kernel_rfl) rfl) (fun h => nomatch h) (fun _ => (opnd_op 27 69 (by kernel_rfl) rfl)) rfl
    · exact owe_move rfl (wants_all rfl) (Or.inl rfl) (opnd_op 28 70 (by kernel_rfl) rfl) rfl
    · exact owe_load rfl (wants_if 29 71 rfl (by kernel_rfl) rfl) rfl (k := 3) rfl (by kernel_rfl) (loads_of strct_int shp_zn) rfl
    · exact owe_call1 rfl (wants_if 29 71 rfl (by kernel_rfl) rfl) rfl (opnd_op 30 72 (by kernel_rfl) rfl) (fresh_zn _) rfl (fun args w => by go_simp) (fun w u h1 => g_zabsB (by omega) w u ((zn_zv dr) _ _ h1))
    · exact owe_load rfl (wants_if 29 71 rfl (by kernel_rfl) rfl) rfl (k := 1) rfl (by kernel_rfl) (loads_of strct_int shp_zx) rfl
    · exact owe_call1 rfl (wants_if 29 71 rfl (by kernel_rfl) rfl) rfl (opnd_op 32 74 (by kernel_rfl) rfl) (fresh_zn _) rfl (fun args w => by go_simp) (fun w u h1 => g_zabsB (by omega) w u ((zx_zv' eB (Nat.le_refl _)) _ _ h1))
    · exact owe_call2 rfl (wants_if 29 71 rfl (by kernel_rfl) rfl) rfl (opnd_op 31 73 (by kernel_rfl) rfl) (opnd_op 33 75 (by kernel_rfl) rfl) (fresh_is _) rfl (fun args w => by go_simp) (fun w u v h1 h2 => g_zcmpB (by omega) (by omega) w u v ((zn_zv drn) _ _ h1) ((zn_zv dBn) _ _ h2))
    · exact owe_bin rfl (wants_if 29 71 rfl (by kernel_rfl) rfl) rfl (opnd_op 34 76 (by kernel_rfl) rfl) (opnd_const _) rfl (fun ρ w h1 h2 => by exact run_geq_int_f ρ _ _ _ w _ _ (sgn_neg_of hsm) h1 h2)
    · exact owe_pick rfl (wants_all rfl) rfl (opnd_op 29 71 (by kernel_rfl) rfl) (fun h => nomatch h) (fun _ => (opnd_op 35 77 (by kernel_rfl) rfl)) rfl
  intro B6 a6 W6 S6
  replace S6 : Sta w 146 [(2, (.box 24 (Zx s p n c xs))), (3, (.box 24 (Zx t q m d ys))), (5, (.box 24 ((ZN (fl A B)) w.heap.size))), (6, (.box 24 ((ZN (rm A B)) w.heap.size))), (8, (.box 24 ((ZN (nr A B)) w.heap.size)))] [(78, (Is (.bool false))), (35, (Is (.bool false))), (9, (Is (.int .i64 0))), (7, (Is (.int .i64 0))), (19, (Is (.bool false))), (4, (Is (.bool false)))] B6 a6 W6 := S6
  refine wp_cond_false (S6.bool 0 78 rfl) ?_
  refine wp_skip ?_
  refine thenN ?_
  refine wp_stmt_seq [.val ((ZN (2)) w.heap.size),
      .val ((ZN (nr A B)) w.heap.size),
      .val (Zx t q m d ys),
      .val ((ZN ((nr A B) * B)) w.heap.size),
      .val (Zx s p n c xs),
      .val ((ZN (((nr A B) * B) - A)) w.heap.size),
      .val ((ZN (((((nr A B) * B) - A).natAbs : Int))) w.heap.size),
      .val ((ZN (2 * (((((nr A B) * B) - A).natAbs : Int)))) w.heap.size),
      .new (.box 24 (Is (.agg #[.bool false, .slice none 0 0]))),
      .put (.inr 8) (.box 24 ((ZN (2 * (((((nr A B) * B) - A).natAbs : Int)))) w.heap.size))] [.inr 0, .inr 1, .inr 2, .inr 3, .inr 4, .inl 8] [.inr 0, .inr 1, .inr 2, .inr 3, .inr 4, .inr 5] follows S6 rfl (by kernel_rfl) ?_ ?_
  · refine ⟨⟨⟨⟨⟨⟨⟨⟨⟨⟨trivial, ?_⟩, ?_⟩, ?_⟩, ?_⟩, ?_⟩, ?_⟩, ?_⟩, ?_⟩, ?_⟩, ?_⟩
    · exact owe_call1 rfl (wants_all rfl) rfl (opnd_const _) (fresh_zn _) rfl (fun args w => by go_simp) (g_zof 2 (by omega) (by omega))
    · exact owe_load rfl (wants_all rfl) rfl (k := 4) rfl (by kernel_rfl) (loads_of strct_int shp_zn) rfl
    · exact owe_load rfl (wants_all rfl) rfl (k := 1) rfl (by kernel_rfl) (loads_of strct_int shp_zx) rfl
    · exact owe_call2 rfl (wants_all rfl) rfl (opnd_op 1 80 (by kernel_rfl) rfl) (opnd_op 2 81 (by kernel_rfl) rfl) (fresh_zn _) rfl (fun args w => by go_simp) (fun w u v h1 h2 => g_zmul (by omega) w u v ((zn_zv dn) _ _ h1) ((zx_zv' eB (Nat.le_refl _)) _ _ h2))
    · exact owe_load rfl (wants_all rfl) rfl (k := 0) rfl (by kernel_rfl) (loads_of strct_int shp_zx) rfl
    · exact owe_call2 rfl (wants_all rfl) rfl (opnd_op 3 82 (by kernel_rfl) rfl) (opnd_op 4 83 (by kernel_rfl) rfl) (fresh_zn _) rfl (fun args w => by go_simp) (fun w u v h1 h2 => g_zsub (by omega) (by omega) w u v ((zn_zv dnB) _ _ h1) ((zx_zv' eA (Nat.le_refl _)) _ _ h2))
    · exact owe_call1 rfl (wants_all rfl) rfl (opnd_op 5 84 (by kernel_rfl) rfl) (fresh_zn _) rfl (fun args w => by go_simp) (fun w u h1 => g_zabsB (by omega) w u ((zn_zv dnS) _ _ h1))
    · exact owe_call2 rfl (wants_all rfl) rfl (opnd_op 0 79 (by kernel_rfl) rfl) (opnd_op 6 85 (by kernel_rfl) rfl) (fresh_zn _) rfl (fun args w => by go_simp) (fun w u v h1 h2 => g_zmul (by omega) w u v ((zn_zv dtw) _ _ h1) ((zn_zv dnN) _ _ h2))
    · exact owe_new rfl (wants_all rfl) rfl rfl (fun ρ w => alloc_int ρ _ w)
    · exact owe_put 8 rfl (wants_all rfl) rfl (by kernel_rfl) rfl (opnd_op 7 86 (by kernel_rfl) rfl) (stores_of strct_int shp_z0 shp_zn) rfl
  intro B7 a7 W7 S7
  replace S7 : Sta w 146 [(2, (.box 24 (Zx s p n c xs))), (3, (.box 24 (Zx t q m d ys))), (5, (.box 24 ((ZN (fl A B)) w.heap.size))), (6, (.box 24 ((ZN (rm A B)) w.heap.size))), (8, (.box 24 ((ZN (nr A B)) w.heap.size))), (10, (.box 24 ((ZN (2 * (((((nr A B) * B) - A).natAbs : Int)))) w.heap.size)))] [(78, (Is (.bool false))), (35, (Is (.bool false))), (9, (Is (.int .i64 0))), (7, (Is (.int .i64 0))), (19, (Is (.bool false))), (4, (Is (.bool false)))] B7 a7 W7 := S7
  refine wp_seq ?_
  refine wp_stmt_seq [.val ((ZN (2 * (((((nr A B) * B) - A).natAbs : Int)))) w.heap.size),
      .val (Zx t q m d ys),
      .val ((ZN (((B).natAbs : Int))) w.heap.size),
      .val (Is (.int .i64 ((2 * (((((nr A B) * B) - A).natAbs : Int))) - (((B).natAbs : Int))).sign)),
      .val (Is (.bool false))] [.inr 0, .inr 1, .inr 2, .inr 3, .inr 4, .inr 5] [.inl 4, .inr 0, .inr 1, .inr 2, .inr 3, .inr 4, .inr 5] follows S7 rfl (by kernel_rfl) ?_ ?_
  · refine ⟨⟨⟨⟨⟨trivial, ?_⟩, ?_⟩, ?_⟩, ?_⟩, ?_⟩
    · exact owe_load rfl (wants_all rfl) rfl (k := 5) rfl (by kernel_rfl) (loads_of strct_int shp_zn) rfl
    · exact owe_load rfl (wants_all rfl) rfl (k := 1) rfl (by kernel_rfl) (loads_of strct_int shp_zx) rfl
    · exact owe_call1 rfl (wants_all rfl) rfl (opnd_op 1 88 (by kernel_rfl) rfl) (fresh_zn _) rfl (fun args w => by go_simp) (fun w u h1 => g_zabsB (by omega) w u ((zx_zv' eB (Nat.le_refl _)) _ _ h1))
    · exact owe_call2 rfl (wants_all rfl) rfl (opnd_op 0 87 (by kernel_rfl) rfl) (opnd_op 2 89 (by kernel_rfl) rfl) (fresh_is _) rfl (fun args w => by go_simp) (fun w u v h1 h2 => g_zcmpB (by omega) (by omega) w u v ((zn_zv (Nat.le_refl _)) _ _ h1) ((zn_zv dBn) _ _ h2))
    · exact owe_bin rfl (wants_all rfl) rfl (opnd_op 3 90 (by kernel_rfl) rfl) (opnd_const _) rfl (fun ρ w h1 h2 => by exact run_gtr_int_f ρ _ _ _ w _ _ (sgn_le_of (by omega)) h1 h2)
  intro B8 a8 W8 S8
  replace S8 : Sta w 146 [(2, (.box 24 (Zx s p n c xs))), (3, (.box 24 (Zx t q m d ys))), (5, (.box 24 ((ZN (fl A B)) w.heap.size))), (6, (.box 24 ((ZN (rm A B)) w.heap.size))), (8, (.box 24 ((ZN (nr A B)) w.heap.size))), (10, (.box 24 ((ZN (2 * (((((nr A B) * B) - A).natAbs : Int)))) w.heap.size)))] [(91, (Is (.bool false))), (78, (Is (.bool false))), (35, (Is (.bool false))), (9, (Is (.int .i64 0))), (7, (Is (.int .i64 0))), (19, (Is (.bool false))), (4, (Is (.bool false)))] B8 a8 W8 := S8
  refine wp_cond_false (S8.bool 0 91 rfl) ?_
  refine wp_skip ?_
  refine thenN ?_
  refine wp_stmt_seq [.val (Zx s p n c xs),
      .val (Zx t q m d ys),
      .val ((THREE (ZN ((gz A B : Int))) (ZN (bzX A B)) (ZN (fl ((gz A B : Int) - (bzX A B * A)) B))) w.heap.size),
      .val ((THREE (ZN ((gz A B : Int))) (ZN (bzX A B)) (ZN (fl ((gz A B : Int) - (bzX A B * A)) B))) w.heap.size),
      .val ((ZN ((gz A B : Int))) w.heap.size),
      .val ((ZN (bzX A B)) w.heap.size),
      .val ((ZN (fl ((gz A B : Int) - (bzX A B * A)) B)) w.heap.size),
      .new (.box 24 (Is (.agg #[.bool false, .slice none 0 0]))),
      .new (.box 24 (Is (.agg #[.bool false, .slice none 0 0]))),
      .new (.box 24 (Is (.agg #[.bool false, .slice none 0 0]))),
      .put (.inr 7) (.box 24 ((ZN ((gz A B : Int))) w.heap.size)),
      .put (.inr 8) (.box 24 ((ZN (bzX A B)) w.heap.size)),
      .put (.inr 9) (.box 24 ((ZN (fl ((gz A B : Int) - (bzX A B * A)) B)) w.heap.size))] [.inr 0, .inr 1, .inr 2, .inr 3, .inr 4, .inr 5, .inl 7, .inl 8, .inl 9] [.inr 0, .inr 1, .inr 2, .inr 3, .inr 4, .inr 5, .inr 6] follows S8 rfl (by kernel_rfl) ?_ ?_
  · refine ⟨⟨⟨⟨⟨⟨⟨⟨⟨⟨⟨⟨⟨trivial, ?_⟩, ?_⟩, ?_⟩, ?_⟩, ?_⟩, ?_⟩, ?_⟩, ?_⟩, ?_⟩, ?_⟩, ?_⟩, ?_⟩, ?_⟩
    · exact owe_load rfl (wants_all rfl) rfl (k := 0) rfl (by kernel_rfl) (loads_of strct_int shp_zx) rfl
    · exact owe_load rfl (wants_all rfl) rfl (k := 1) rfl (by kernel_rfl) (loads_of strct_int shp_zx) rfl
    · exact owe_call2 rfl (wants_all rfl) rfl (opnd_op 0 93 (by kernel_rfl) rfl) (opnd_op 1 94 (by kernel_rfl) rfl) (fresh_three (fresh_zn _) (fresh_zn _) (fresh_zn _)) rfl (fun args w => by go_simp) (fun w u v h1 h2 => g_zbez hB (by omega) (by omega) w u v ((zx_zv' eA (Nat.le_refl _)) _ _ h1) ((zx_zv' eB (Nat.le_refl _)) _ _ h2))
    · exact owe_move rfl (wants_all rfl) (Or.inl rfl) (opnd_op 2 95 (by kernel_rfl) rfl) rfl
    · exact owe_ext3 rfl (wants_all rfl) rfl (opnd_op 3 92 (by kernel_rfl) rfl) (Or.inl ⟨rfl, rfl⟩) rfl
    · exact owe_ext3 rfl (wants_all rfl) rfl (opnd_op 3 92 (by kernel_rfl) rfl) (Or.inr (Or.inl ⟨rfl, rfl⟩)) rfl
    · exact owe_ext3 rfl (wants_all rfl) rfl (opnd_op 3 92 (by kernel_rfl) rfl) (Or.inr (Or.inr ⟨rfl, rfl⟩)) rfl
    · exact owe_new rfl (wants_all rfl) rfl rfl (fun ρ w => alloc_int ρ _ w)
    · exact owe_new rfl (wants_all rfl) rfl rfl (fun ρ w => alloc_int ρ _ w)
    · exact owe_new rfl (wants_all rfl) rfl rfl (fun ρ w => alloc_int ρ _ w)
    · exact owe_put 7 rfl (wants_all rfl) rfl (by kernel_rfl) rfl (opnd_op 4 96 (by kernel_rfl) rfl) (stores_of strct_int shp_z0 shp_zn) rfl
    · exact owe_put 8 rfl (wants_all rfl) rfl (by kernel_rfl) rfl (opnd_op 5 97 (by kernel_rfl) rfl) (stores_of strct_int shp_z0 shp_zn) rfl
    · exact owe_put 9 rfl (wants_all rfl) rfl (by kernel_rfl) rfl (opnd_op 6 98 (by kernel_rfl) rfl) (stores_of strct_int shp_z0 shp_zn) rfl
  intro B9 a9 W9 S9
  replace S9 : Sta w 146 [(2, (.box 24 (Zx s p n c xs))), (3, (.box 24 (Zx t q m d ys))), (5, (.box 24 ((ZN (fl A B)) w.heap.size))), (6, (.box 24 ((ZN (rm A B)) w.heap.size))), (8, (.box 24 ((ZN (nr A B)) w.heap.size))), (10, (.box 24 ((ZN (2 * (((((nr A B) * B) - A).natAbs : Int)))) w.heap.size))), (11, (.box 24 ((ZN ((gz A B : Int))) w.heap.size))), (12, (.box 24 ((ZN (bzX A B)) w.heap.size))), (13, (.box 24 ((ZN (fl ((gz A B : Int) - (bzX A B * A)) B)) w.heap.size)))] [(91, (Is (.bool false))), (78, (Is (.bool false))), (35, (Is (.bool false))), (9, (Is (.int .i64 0))), (7, (Is (.int .i64 0))), (19, (Is (.bool false))), (4, (Is (.bool false)))] B9 a9 W9 := S9
  refine wp_seq ?_
  refine wp_stmt_seq [.val ((ZN (bzX A B)) w.heap.size),
      .val (Zx s p n c xs),
      .val ((ZN ((bzX A B) * A)) w.heap.size),
      .val ((ZN (fl ((gz A B : Int) - (bzX A B * A)) B)) w.heap.size),
      .val (Zx t q m d ys),
      .val ((ZN ((fl ((gz A B : Int) - (bzX A B * A)) B) * B)) w.heap.size),
      .val ((ZN ((gz A B : Int))) w.heap.size),
      .val ((ZN ((gz A B : Int))) w.heap.size),
      .val (Is (.bool true)),
      .val (Is (.bool false)),
      .val (Is (.bool false)),
      .val ((ZN ((gz A B : Int))) w.heap.size),
      .val (Is (.int .i64 ((gz A B : Int)).sign)),
      .val (Is (.bool false)),
      .val (Is (.bool false))] [.inr 0, .inr 1, .inr 2, .inr 3, .inr 4, .inr 5, .inr 6, .inr 7, .inr 8] [.inl 14, .inr 0, .inr 1, .inr 2, .inr 3, .inr 4, .inr 5, .inr 6] follows S9 rfl (by kernel_rfl) ?_ ?_
  · refine ⟨⟨⟨⟨⟨⟨⟨⟨⟨⟨⟨⟨⟨⟨⟨trivial, ?_⟩, ?_⟩, ?_⟩, ?_⟩, ?_⟩, ?_⟩, ?_⟩, ?_⟩, ?_⟩, ?_⟩, ?_⟩, ?_⟩, ?_⟩, ?_⟩, ?_⟩
    · exact owe_load rfl (wants_all rfl) rfl (k := 7) rfl (by kernel_rfl) (loads_of strct_int shp_zn) rfl
    · exact owe_load rfl (wants_all rfl) rfl (k := 0) rfl (by kernel_rfl) (loads_of strct_int shp_zx) rfl
    · exact owe_call2 rfl (wants_all rfl) rfl (opnd_op 0 99 (by kernel_rfl) rfl) (opnd_op 1 100 (by kernel_rfl) rfl) (fresh_zn _) rfl (fun args w => by go_simp) (fun w u v h1 h2 => g_zmul (by omega) w u v ((zn_zv dX) _ _ h1) ((zx_zv' eA (Nat.le_refl _)) _ _ h2))
    · exact owe_load rfl (wants_all rfl) rfl (k := 8) rfl (by kernel_rfl) (loads_of strct_int shp_zn) rfl
    · exact owe_load rfl (wants_all rfl) rfl (k := 1) rfl (by kernel_rfl) (loads_of strct_int shp_zx) rfl
    · exact owe_call2 rfl (wants_all rfl) rfl (opnd_op 3 102 (by kernel_rfl) rfl) (opnd_op 4 103 (by kernel_rfl) rfl) (fresh_zn _) rfl (fun args w => by go_simp) (fun w u v h1 h2 => g_zmul (by omega) w u v ((zn_zv dF) _ _ h1) ((zx_zv' eB (Nat.le_refl _)) _ _ h2))
    · exact owe_call2 rfl (wants_all rfl) rfl (opnd_op 2 101 (by kernel_rfl) rfl) (opnd_op 5 104 (by kernel_rfl) rfl) (fresh_zn _) rfl (fun args w => by go_simp) (fun w u0 u1 h0 h1 => Gives.cast ((fun w u v h1 h2 => g_zadd (by omega) (by omega) w u v ((zn_zv dXA) _ _ h1) ((zn_zv dFB) _ _ h2)) w u0 u1 h0 h1) (by rw [hsum]))
    · exact owe_load rfl (wants_all rfl) rfl (k := 6) rfl (by kernel_rfl) (loads_of strct_int shp_zn) rfl
    · exact owe_call2 rfl (wants_all rfl) rfl (opnd_op 6 105 (by kernel_rfl) rfl) (opnd_op 7 106 (by kernel_rfl) rfl) (fresh_is _) rfl (fun args w => by go_simp) g_eq
    · exact owe_un (x := .tmp 107) rfl (wants_all rfl) rfl (opnd_op 8 107 (by kernel_rfl) rfl) rfl (fun ρ w h1 => run_not ρ _ _ w _ h1)
    · exact owe_move rfl (wants_all rfl) (Or.inl rfl) (opnd_op 9 108 (by kernel_rfl) rfl) rfl
    · exact owe_load rfl (wants_if 10 109 rfl (by kernel_rfl) rfl) rfl (k := 6) rfl (by kernel_rfl) (loads_of strct_int shp_zn) rfl
    · exact owe_call1 rfl (wants_if 10 109 rfl (by kernel_rfl) rfl) rfl (opnd_op 11 110 (by kernel_rfl) rfl) (fresh_is _) rfl (fun args w => by go_simp) (fun w u h1 => g_zsignB (by omega) w u ((zn_zv dG) _ _ h1))
    · exact owe_bin rfl (wants_if 10 109 rfl (by kernel_rfl) rfl) rfl (opnd_op 12 111 (by kernel_rfl) rfl) (opnd_const _) rfl (fun ρ w h1 h2 => by exact run_leq_int_f ρ _ _ _ w _ _ (sgn_gt_of (by omega)) h1 h2)
    · exact owe_pick rfl (wants_all rfl) rfl (opnd_op 10 109 (by kernel_rfl) rfl) (fun h => nomatch h) (fun _ => (opnd_op 13 112 (by kernel_rfl) rfl)) rfl
  intro B10 a10 W10 S10
  replace S10 : Sta w 146 [(2, (.box 24 (Zx s p n c xs))), (3, (.box 24 (Zx t q m d ys))), (5, (.box 24 ((ZN (fl A B)) w.heap.size))), (6, (.box 24 ((ZN (rm A B)) w.heap.size))), (8, (.box 24 ((ZN (nr A B)) w.heap.size))), (10, (.box 24 ((ZN (2 * (((((nr A B) * B) - A).natAbs : Int)))) w.heap.size))), (11, (.box 24 ((ZN ((gz A B : Int))) w.heap.size))), (12, (.box 24 ((ZN (bzX A B)) w.heap.size))), (13, (.box 24 ((ZN (fl ((gz A B : Int) - (bzX A B * A)) B)) w.heap.size)))] [(113, (Is (.bool false))), (91, (Is (.bool false))), (78, (Is (.bool false))), (35, (Is (.bool false))), (9, (Is (.int .i64 0))), (7, (Is (.int .i64 0))), (19, (Is (.bool false))), (4, (Is (.bool false)))] B10 a10 W10 := S10
  refine wp_cond_false (S10.bool 0 113 rfl) ?_
  refine wp_skip ?_
  refine thenN ?_
  refine wp_stmt_seq [.val (Zx s p n c xs),
      .val ((ZN ((gz A B : Int))) w.heap.size),
      .val ((TWO (ZN (fl A ((gz A B : Int)))) (IS (.int .i64 0))) w.heap.size),
      .val ((TWO (ZN (fl A ((gz A B : Int)))) (IS (.int .i64 0))) w.heap.size),
      .val ((ZN (fl A ((gz A B : Int)))) w.heap.size),
      .val (Is (.int .i64 0)),
      .new (.box 24 (Is (.agg #[.bool false, .slice none 0 0]))),
      .put (.inr 6) (.box 24 ((ZN (fl A ((gz A B : Int)))) w.heap.size)),
      .val (Is (.int .i64 0))] [.inr 0, .inr 1, .inr 2, .inr 3, .inr 4, .inr 5, .inr 6, .inr 7, .inr 8, .inl 6] [.inl 8, .inr 0, .inr 1, .inr 2, .inr 3, .inr 4, .inr 5, .inr 6, .inr 7] follows S10 rfl (by kernel_rfl) ?_ ?_
  · refine ⟨⟨⟨⟨⟨⟨⟨⟨⟨trivial, ?_⟩, ?_⟩, ?_⟩, ?_⟩, ?_⟩, ?_⟩, ?_⟩, ?_⟩, ?_⟩
    · exact owe_load rfl (wants_all rfl) rfl (k := 0) rfl (by kernel_rfl) (loads_of strct_int shp_zx) rfl
    · exact owe_load rfl (wants_all rfl) rfl (k := 6) rfl (by kernel_rfl) (loads_of strct_int shp_zn) rfl
    · exact owe_call2 rfl (wants_all rfl) rfl (opnd_op 0 115 (by kernel_rfl) rfl) (opnd_op 1 116 (by kernel_rfl) rfl) (fresh_two (fresh_zn _) (fresh_is _)) rfl (fun args w => by go_simp) (fun w u v h1 h2 => g_zexact2 hgp r1 (by omega) w u v ((zx_zv' eA (Nat.le_refl _)) _ _ h1) ((zn_zv dG) _ _ h2))
    · exact owe_move rfl (wants_all rfl) (Or.inl rfl) (opnd_op 2 117 (by kernel_rfl) rfl) rfl
    · exact owe_ext2 rfl (wants_all rfl) rfl (opnd_op 3 114 (by kernel_rfl) rfl) (Or.inl ⟨rfl, rfl⟩) rfl
    · exact owe_ext2 rfl (wants_all rfl) rfl (opnd_op 3 114 (by kernel_rfl) rfl) (Or.inr ⟨rfl, rfl⟩) rfl
    · exact owe_new rfl (wants_all rfl) rfl rfl (fun ρ w => alloc_int ρ _ w)
    · exact owe_put 6 rfl (wants_all rfl) rfl (by kernel_rfl) rfl (opnd_op 4 118 (by kernel_rfl) rfl) (stores_of strct_int shp_z0 shp_zn) rfl
    · exact owe_move rfl (wants_all rfl) (Or.inr rfl) (opnd_op 5 119 (by kernel_rfl) rfl) rfl
  intro B11 a11 W11 S11
  replace S11 : Sta w 146 [(2, (.box 24 (Zx s p n c xs))), (3, (.box 24 (Zx t q m d ys))), (5, (.box 24 ((ZN (fl A B)) w.heap.size))), (6, (.box 24 ((ZN (rm A B)) w.heap.size))), (8, (.box 24 ((ZN (nr A B)) w.heap.size))), (10, (.box 24 ((ZN (2 * (((((nr A B) * B) - A).natAbs : Int)))) w.heap.size))), (11, (.box 24 ((ZN ((gz A B : Int))) w.heap.size))), (12, (.box 24 ((ZN (bzX A B)) w.heap.size))), (13, (.box 24 ((ZN (fl ((gz A B : Int) - (bzX A B * A)) B)) w.heap.size))), (14, (.box 24 ((ZN (fl A ((gz A B : Int)))) w.heap.size)))] [(15, (Is (.int .i64 0))), (113, (Is (.bool false))), (91, (Is (.bool false))), (78, (Is (.bool false))), (35, (Is (.bool false))), (9, (Is (.int .i64 0))), (7, (Is (.int .i64 0))), (19, (Is (.bool false))), (4, (Is (.bool false)))] B11 a11 W11 := S11
  refine wp_stmt_seq [.val (Zx t q m d ys),
      .val ((ZN ((gz A B : Int))) w.heap.size),
      .val ((TWO (ZN (fl B ((gz A B : Int)))) (IS (.int .i64 0))) w.heap.size),
      .val ((TWO (ZN (fl B ((gz A B : Int)))) (IS (.int .i64 0))) w.heap.size),
      .val ((ZN (fl B ((gz A B : Int)))) w.heap.size),
      .val (Is (.int .i64 0)),
      .new (.box 24 (Is (.agg #[.bool false, .slice none 0 0]))),
      .put (.inr 6) (.box 24 ((ZN (fl B ((gz A B : Int)))) w.heap.size)),
      .val (Is (.int .i64 0))] [.inr 0, .inr 1, .inr 2, .inr 3, .inr 4, .inr 5, .inr 6, .inr 7, .inr 8, .inr 9, .inl 6] [.inl 8, .inr 0, .inr 1, .inr 2, .inr 3, .inr 4, .inr 5, .inr 6, .inr 7, .inr 8] follows S11 rfl (by kernel_rfl) ?_ ?_
  · refine ⟨⟨⟨⟨⟨⟨⟨⟨⟨trivial, ?_⟩, ?_⟩, ?_⟩, ?_⟩, ?_⟩, ?_⟩, ?_⟩, ?_⟩, ?_⟩
    · exact owe_load rfl (wants_all rfl) rfl (k := 1) rfl (by kernel_rfl) (loads_of strct_int shp_zx) rfl
    · exact owe_load rfl (wants_all rfl) rfl (k := 6) rfl (by kernel_rfl) (loads_of strct_int shp_zn) rfl
    · exact owe_call2 rfl (wants_all rfl) rfl (opnd_op 0 121 (by kernel_rfl) rfl) (opnd_op 1 122 (by kernel_rfl) rfl) (fresh_two (fresh_zn _) (fresh_is _)) rfl (fun args w => by go_simp) (fun w u v h1 h2 => g_zexact2 hgp r2 (by omega) w u v ((zx_zv' eB (Nat.le_refl _)) _ _ h1) ((zn_zv dG) _ _ h2))
    · exact owe_move rfl (wants_all rfl) (Or.inl rfl) (opnd_op 2 123 (by kernel_rfl) rfl) rfl
    · exact owe_ext2 rfl (wants_all rfl) rfl (opnd_op 3 120 (by kernel_rfl) rfl) (Or.inl ⟨rfl, rfl⟩) rfl
    · exact owe_ext2 rfl (wants_all rfl) rfl (opnd_op 3 120 (by kernel_rfl) rfl) (Or.inr ⟨rfl, rfl⟩) rfl
    · exact owe_new rfl (wants_all rfl) rfl rfl (fun ρ w => alloc_int ρ _ w)
    · exact owe_put 6 rfl (wants_all rfl) rfl (by kernel_rfl) rfl (opnd_op 4 124 (by kernel_rfl) rfl) (stores_of strct_int shp_z0 shp_zn) rfl
    · exact owe_move rfl (wants_all rfl) (Or.inr rfl) (opnd_op 5 125 (by kernel_rfl) rfl) rfl
  intro B12 a12 W12 S12
  replace S12 : Sta w 146 [(2, (.box 24 (Zx s p n c xs))), (3, (.box 24 (Zx t q m d ys))), (5, (.box 24 ((ZN (fl A B)) w.heap.size))), (6, (.box 24 ((ZN (rm A B)) w.heap.size))), (8, (.box 24 ((ZN (nr A B)) w.heap.size))), (10, (.box 24 ((ZN (2 * (((((nr A B) * B) - A).natAbs : Int)))) w.heap.size))), (11, (.box 24 ((ZN ((gz A B : Int))) w.heap.size))), (12, (.box 24 ((ZN (bzX A B)) w.heap.size))), (13, (.box 24 ((ZN (fl ((gz A B : Int) - (bzX A B * A)) B)) w.heap.size))), (14, (.box 24 ((ZN (fl A ((gz A B : Int)))) w.heap.size))), (16, (.box 24 ((ZN (fl B ((gz A B : Int)))) w.heap.size)))] [(17, (Is (.int .i64 0))), (15, (Is (.int .i64 0))), (113, (Is (.bool false))), (91, (Is (.bool false))), (78, (Is (.bool false))), (35, (Is (.bool false))), (9, (Is (.int .i64 0))), (7, (Is (.int .i64 0))), (19, (Is (.bool false))), (4, (Is (.bool false)))] B12 a12 W12 := S12
  refine wp_stmt_seq [.val (Is (.int .i64 0)),
      .val (Is (.bool true)),
      .val (Is (.bool true)),
      .val (Is (.int .i64 0)),
      .val (Is (.bool true)),
      .val (Is (.bool true)),
      .val (Is (.bool true)),
      .val ((ZN (bzX A B)) w.heap.size),
      .val (Is (.int .i64 (bzX A B).sign)),
      .val (Is (.bool true)),
      .val (Is (.bool true)),
      .val (Is (.bool true)),
      .val ((ZN (bzX A B)) w.heap.size),
      .val ((ZN ((gz A B : Int))) w.heap.size),
      .val ((ZN ((bzX A B) * ((gz A B : Int)))) w.heap.size),
      .val (Zx t q m d ys),
      .val ((ZN (((B).natAbs : Int))) w.heap.size),
      .val (Is (.int .i64 (((bzX A B) * ((gz A B : Int))) - (((B).natAbs : Int))).sign)),
      .val (Is (.bool true)),
      .val (Is (.bool true)),
      .val (Is (.bool true))] [.inr 0, .inr 1, .inr 2, .inr 3, .inr 4, .inr 5, .inr 6, .inr 7, .inr 8, .inr 9, .inr 10] [.inl 20, .inr 2, .inr 3, .inr 4, .inr 5, .inr 6, .inr 7, .inr 8] follows S12 rfl (by kernel_rfl) ?_ ?_
  · refine ⟨⟨⟨⟨⟨⟨⟨⟨⟨⟨⟨⟨⟨⟨⟨⟨⟨⟨⟨⟨⟨trivial, ?_⟩, ?_⟩, ?_⟩, ?_⟩, ?_⟩, ?_⟩, ?_⟩, ?_⟩, ?_⟩, ?_⟩, ?_⟩, ?_⟩, ?_⟩, ?_⟩, ?_⟩, ?_⟩, ?_⟩, ?_⟩, ?_⟩, ?_⟩, ?_⟩
    · exact owe_move rfl (wants_all rfl) (Or.inl rfl) (opnd_slot 1 15 rfl (by kernel_rfl)) rfl
    · exact owe_bin rfl (wants_all rfl) rfl (opnd_op 0 126 (by kernel_rfl) rfl) (opnd_const _) rfl (fun ρ w h1 h2 => by exact run_eql_errno_t ρ _ _ _ w _ _ rfl h1 h2)
    · exact owe_move rfl (wants_all rfl) (Or.inl rfl) (opnd_op 1 127 (by kernel_rfl) rfl) rfl
    · exact owe_move rfl (wants_if 2 128 rfl (by kernel_rfl) rfl) (Or.inl rfl) (opnd_slot 0 17 rfl (by kernel_rfl)) rfl
    · exact owe_bin rfl (wants_if 2 128 rfl (by kernel_rfl) rfl) rfl (opnd_op 3 129 (by kernel_rfl) rfl) (opnd_const _) rfl (fun ρ w h1 h2 => by exact run_eql_errno_t ρ _ _ _ w _ _ rfl h1 h2)
    · exact owe_pick rfl (wants_all rfl) rfl (opnd_op 2 128 (by kernel_rfl) rfl) (fun _ => (opnd_op 4 130 (by kernel_rfl) rfl)) (fun h => nomatch h) rfl
    · exact owe_move rfl (wants_all rfl) (Or.inl rfl) (opnd_op 5 131 (by kernel_rfl) rfl) rfl
    · exact owe_load rfl (wants_if 6 132 rfl (by kernel_rfl) rfl) rfl (k := 7) rfl (by kernel_rfl) (loads_of strct_int shp_zn) rfl
    · exact owe_call1 rfl (wants_if 6 132 rfl (by kernel_rfl) rfl) rfl (opnd_op 7 133 (by kernel_rfl) rfl) (fresh_is _) rfl (fun args w => by go_simp) (fun w u h1 => g_zsignB (by omega) w u ((zn_zv dX) _ _ h1))
    · exact owe_bin rfl (wants_if 6 132 rfl (by kernel_rfl) rfl) rfl (opnd_op 8 134 (by kernel_rfl) rfl) (opnd_const _) rfl (fun ρ w h1 h2 => by exact run_geq_int_t ρ _ _ _ w _ _ (sgn_ge_of bp.1) h1 h2)
    · exact owe_pick rfl (wants_all rfl) rfl (opnd_op 6 132 (by kernel_rfl) rfl) (fun _ => (opnd_op 9 135 (by kernel_rfl) rfl)) (fun h => nomatch h) rfl
    · exact owe_move rfl (wants_all rfl) (Or.inl rfl) (opnd_op 10 136 (by kernel_rfl) rfl) rfl
    · exact owe_load rfl (wants_if 11 137 rfl (by kernel_rfl) rfl) rfl (k := 7) rfl (by kernel_rfl) (loads_of strct_int shp_zn) rfl
    · exact owe_load rfl (wants_if 11 137 rfl (by kernel_rfl) rfl) rfl (k := 6) rfl (by kernel_rfl) (loads_of strct_int shp_zn) rfl
    · exact owe_call2 rfl (wants_if 11 137 rfl (by kernel_rfl) rfl) rfl (opnd_op 12 138 (by kernel_rfl) rfl) (opnd_op 13 139 (by kernel_rfl) rfl) (fresh_zn _) rfl (fun args w => by go_simp) (fun w u v h1 h2 => g_zmul (by omega) w u v ((zn_zv dX) _ _ h1) ((zn_zv dG) _ _ h2))
    · exact owe_load rfl (wants_if 11 137 rfl (by kernel_rfl) rfl) rfl (k := 1) rfl (by kernel_rfl) (loads_of strct_int shp_zx) rfl
    · exact owe_call1 rfl (wants_if 11 137 rfl (by kernel_rfl) rfl) rfl (opnd_op 15 141 (by kernel_rfl) rfl) (fresh_zn _) rfl (fun args w => by go_simp) (fun w u h1 => g_zabsB (by omega) w u ((zx_zv' eB (Nat.le_refl _)) _ _ h1))
    · exact owe_call2 rfl (wants_if 11 137 rfl (by kernel_rfl) rfl) rfl (opnd_op 14 140 (by kernel_rfl) rfl) (opnd_op 16 142 (by kernel_rfl) rfl) (fresh_is _) rfl (fun args w => by go_simp) (fun w u v h1 h2 => g_zcmpB (by omega) (by omega) w u v ((zn_zv (Nat.le_refl _)) _ _ h1) ((zn_zv dBn) _ _ h2))
    · exact owe_bin rfl (wants_if 11 137 rfl (by kernel_rfl) rfl) rfl (opnd_op 17 143 (by kernel_rfl) rfl) (opnd_const _) rfl (fun ρ w h1 h2 => by exact run_lss_int_t ρ _ _ _ w _ _ (sgn_neg_of (by have := bp.2.1; omega)) h1 h2)
    · exact owe_pick rfl (wants_all rfl) rfl (opnd_op 11 137 (by kernel_rfl) rfl) (fun _ => (opnd_op 18 144 (by kernel_rfl) rfl)) (fun h => nomatch h) rfl
    · exact owe_move rfl (wants_all rfl) (Or.inr rfl) (opnd_op 19 145 (by kernel_rfl) rfl) rfl
  intro B13 a13 W13 S13
  replace S13 : Sta w 146 [(2, (.box 24 (Zx s p n c xs))), (3, (.box 24 (Zx t q m d ys))), (5, (.box 24 ((ZN (fl A B)) w.heap.size))), (6, (.box 24 ((ZN (rm A B)) w.heap.size))), (8, (.box 24 ((ZN (nr A B)) w.heap.size))), (10, (.box 24 ((ZN (2 * (((((nr A B) * B) - A).natAbs : Int)))) w.heap.size))), (11, (.box 24 ((ZN ((gz A B : Int))) w.heap.size))), (12, (.box 24 ((ZN (bzX A B)) w.heap.size))), (13, (.box 24 ((ZN (fl ((gz A B : Int) - (bzX A B * A)) B)) w.heap.size))), (14, (.box 24 ((ZN (fl A ((gz A B : Int)))) w.heap.size))), (16, (.box 24 ((ZN (fl B ((gz A B : Int)))) w.heap.size)))] [(4, (Is (.bool true))), (113, (Is (.bool false))), (91, (Is (.bool false))), (78, (Is (.bool false))), (35, (Is (.bool false))), (9, (Is (.int .i64 0))), (7, (Is (.int .i64 0))), (19, (Is (.bool false)))] B13 a13 W13 := S13
  refine wp_ret ?_
  exact end_one S13 rfl (res_tmp S13 0 4 rfl)

set_option maxHeartbeats 1000000 in
theorem zrests_w2 (w : World) (s t : Bool) (p q : Option Addr) (n c m d : Nat) (xs ys : List Nat) (h : Sl w p n c xs) (h' : Sl w q m d ys) (hs : n ≤ 1048576) (hs' : m ≤ 1048576) (A B : Int) (eA : sg s (val xs) = A) (eB : sg t (val ys) = B) (hB : B ≠ 0) (hb : B.sign ≠ 0) (hr : rm A B ≠ 0) :
    Calls Tryd.prog 3 #[.agg #[.bool s, .slice p n c], .agg #[.bool t, .slice q m d]] w (Gives (IS (.bool true)) w) := by
  have dA : (digs A.natAbs).length ≤ n := by rw [← eA]; exact sg_dl h
  have dB : (digs B.natAbs).length ≤ m := by rw [← eB]; exact sg_dl h'
  have rb := rm_bounds (A := A) hB
  have bp := bez_any (A := A) hB
  have hE := bz_dvd hB bp
  have hgp : (gz A B : Int) ≠ 0 := by have := gz_ne (A := A) hB; omega
  have r1 := rm_dvd hgp (gz_dvd A B).1
  have r2 := rm_dvd hgp (gz_dvd A B).2
  have hsum := bez_sum hB hE
  have hoff := near_off (A := A) hB
  have hsm := rm_small (A := A) hB
  have hgD : gz A B ≤ B.natAbs := Nat.le_of_dvd (by omega) (Nat.gcd_dvd_right _ _)
  have dG : (digs ((gz A B : Int)).natAbs).length ≤ m := by rw [Int.natAbs_natCast]; exact Nat.le_trans (digs_length_mono hgD) dB
  have hXD : (bzX A B).natAbs ≤ B.natAbs := by
    have h1 := bp.1
    have h2 := bp.2.1
    have h3 : bzX A B * 1 ≤ bzX A B * (gz A B : Int) := Int.mul_le_mul_of_nonneg_left (by have := gz_ne (A := A) hB; omega) h1
    omega
  have dX : (digs (bzX A B).natAbs).length ≤ m := Nat.le_trans (digs_length_mono hXD) dB
  have dXA : (digs (bzX A B * A).natAbs).length ≤ m + n := dl_mul dX dA
  have dS : (digs ((gz A B : Int) - bzX A B * A).natAbs).length ≤ m + n + 1 := dl_sub (Nat.le_trans dG (by omega)) dXA
  have dF := fl_len hB dS
  have dFB : (digs (fl ((gz A B : Int) - bzX A B * A) B * B).natAbs).length ≤ m + n + 1 + 1 + m := dl_mul dF dB
  have dq := fl_len hB dA
  have dqB : (digs (fl A B * B).natAbs).length ≤ n + 1 + m := dl_mul dq dB
  have dr : (digs (rm A B).natAbs).length ≤ m := Nat.le_trans (digs_length_mono (by omega)) dB
  have drn : (digs (((rm A B).natAbs : Nat) : Int).natAbs).length ≤ m := by rw [Int.natAbs_natCast]; exact dr
  have dBn : (digs (((B).natAbs : Nat) : Int).natAbs).length ≤ m := by rw [Int.natAbs_natCast]; exact dB
  have d2A : (digs (2 * A + B).natAbs).length ≤ 1 + n + m + 1 := dl_add (Nat.le_trans (dl_mul (k := 1) (show (digs (2 : Int).natAbs).length ≤ 1 by decide) dA) (by omega)) (Nat.le_trans dB (by omega))
  have dn : (digs (nr A B).natAbs).length ≤ 1 + n + m + 1 + 1 := fl_len (by omega) d2A
  have dnB : (digs (nr A B * B).natAbs).length ≤ 1 + n + m + 1 + 1 + m := dl_mul dn dB
  have dnS : (digs (nr A B * B - A).natAbs).length ≤ 1 + n + m + 1 + 1 + m + 1 := dl_sub dnB (Nat.le_trans dA (by omega))
  have dnN : (digs (((nr A B * B - A).natAbs : Nat) : Int).natAbs).length ≤ 1 + n + m + 1 + 1 + m + 1 := by rw [Int.natAbs_natCast]; exact dnS
  have d2n : (digs (2 * (((nr A B * B - A).natAbs : Nat) : Int)).natAbs).length ≤ 1 + (1 + n + m + 1 + 1 + m + 1) := dl_mul (k := 1) (show (digs (2 : Int).natAbs).length ≤ 1 by decide) dnN
  have dXG : (digs (bzX A B * (gz A B : Int)).natAbs).length ≤ m + m := dl_mul dX dG
  have dtw : (digs (2 : Int).natAbs).length ≤ 1 := by decide
  refine calls_sta (sl := [(0, (Zx s p n c xs)), (1, (Zx t q m d ys))]) Tryd.func3 rfl Tryd.ntmps3 (by simp) (args_cons rfl (zx_has h) (args_cons rfl (zx_has h') args_nil)) ?_
  intro a0 S0
  refine wp_stmt_seq [.new (.box 24 (Zx s p n c xs)),
      .new (.box 24 (Zx t q m d ys)),
      .val (Is (.bool false))] [.inl 0, .inl 1] [.inl 2] follows S0 rfl (by kernel_rfl) ?_ ?_
  · refine ⟨⟨⟨trivial, ?_⟩, ?_⟩, ?_⟩
    · exact owe_box rfl (wants_all rfl) rfl (opnd_slot 0 0 rfl (by kernel_rfl)) rfl (fun ρ w h => box_int shp_zx ρ _ _ w h)
    · exact owe_box rfl (wants_all rfl) rfl (opnd_slot 1 1 rfl (by kernel_rfl)) rfl (fun ρ w h => box_int shp_zx ρ _ _ w h)
    · exact owe_move rfl (wants_all rfl) (Or.inr rfl) (opnd_const _) rfl
  intro B1 a1 W1 S1
  replace S1 : Sta w 146 [(2, (.box 24 (Zx s p n c xs))), (3, (.box 24 (Zx t q m d ys)))] [(4, (Is (.bool false)))] B1 a1 W1 := S1
  refine wp_seq ?_
  refine wp_stmt_seq [.val (Is (.bool true)),
      .val (Is (.bool false))] [.inr 0, .inr 1] [.inl 1, .inr 0] follows S1 rfl (by kernel_rfl) ?_ ?_
  · refine ⟨⟨trivial, ?_⟩, ?_⟩
    · exact owe_call0 rfl (wants_all rfl) rfl  (fresh_is _) rfl (fun args w => by go_simp) (fun w => g_alive w)
    · exact owe_un (x := .tmp 18) rfl (wants_all rfl) rfl (opnd_op 0 18 (by kernel_rfl) rfl) rfl (fun ρ w h1 => run_not ρ _ _ w _ h1)
  intro B2 a2 W2 S2
  replace S2 : Sta w 146 [(2, (.box 24 (Zx s p n c xs))), (3, (.box 24 (Zx t q m d ys)))] [(19, (Is (.bool false))), (4, (Is (.bool false)))] B2 a2 W2 := S2
  refine wp_cond_false (S2.bool 0 19 rfl) ?_
  refine wp_skip ?_
  refine thenN ?_
  refine wp_stmt_seq [.val (Zx s p n c xs),
      .val (Zx t q m d ys),
      .val ((THREE (ZN (fl A B)) (ZN (rm A B)) (IS (.int .i64 0))) w.heap.size),
      .val ((THREE (ZN (fl A B)) (ZN (rm A B)) (IS (.int .i64 0))) w.heap.size),
      .val ((ZN (fl A B)) w.heap.size),
      .val ((ZN (rm A B)) w.heap.size),
      .val (Is (.int .i64 0)),
      .new (.box 24 (Is (.agg #[.bool false, .slice none 0 0]))),
      .new (.box 24 (Is (.agg #[.bool false, .slice none 0 0]))),
      .put (.inr 7) (.box 24 ((ZN (fl A B)) w.heap.size)),
      .put (.inr 8) (.box 24 ((ZN (rm A B)) w.heap.size)),
      .val (Is (.int .i64 0))] [.inr 0, .inr 1, .inl 7, .inl 8] [.inl 11, .inr 0, .inr 1] follows S2 rfl (by kernel_rfl) ?_ ?_
  · refine ⟨⟨⟨⟨⟨⟨⟨⟨⟨⟨⟨⟨trivial, ?_⟩, ?_⟩, ?_⟩, ?_⟩, ?_⟩, ?_⟩, ?_⟩, ?_⟩, ?_⟩, ?_⟩, ?_⟩, ?_⟩
    · exact owe_load rfl (wants_all rfl) rfl (k := 0) rfl (by kernel_rfl) (loads_of strct_int shp_zx) rfl
    · exact owe_load rfl (wants_all rfl) rfl (k := 1) rfl (by kernel_rfl) (loads_of strct_int shp_zx) rfl
    · exact owe_call2 rfl (wants_all rfl) rfl (opnd_op 0 21 (by kernel_rfl) rfl) (opnd_op 1 22 (by kernel_rfl) rfl) (fresh_three (fresh_zn _) (fresh_zn _) (fresh_is _)) rfl (fun args w => by go_simp) (fun w u v h1 h2 => g_zfloor hB (by omega) (by omega) w u v ((zx_zv' eA (Nat.le_refl _)) _ _ h1) ((zx_zv' eB (Nat.le_refl _)) _ _ h2))
    · exact owe_move rfl (wants_all rfl) (Or.inl rfl) (opnd_op 2 23 (by kernel_rfl) rfl) rfl
    · exact owe_ext3 rfl (wants_all rfl) rfl (opnd_op 3 20 (by kernel_rfl) rfl) (Or.inl ⟨rfl, rfl⟩) rfl
    · exact owe_ext3 rfl (wants_all rfl) rfl (opnd_op 3 20 (by kernel_rfl) rfl) (Or.inr (Or.inl ⟨rfl, rfl⟩)) rfl
    · exact owe_ext3 rfl (wants_all rfl) rfl (opnd_op 3 20 (by kernel_rfl) rfl) (Or.inr (Or.inr ⟨rfl, rfl⟩)) rfl
    · exact owe_new rfl (wants_all rfl) rfl rfl (fun ρ w => alloc_int ρ _ w)
    · exact owe_new rfl (wants_all rfl) rfl rfl (fun ρ w => alloc_int ρ _ w)
    · exact owe_put 7 rfl (wants_all rfl) rfl (by kernel_rfl) rfl (opnd_op 4 24 (by kernel_rfl) rfl) (stores_of strct_int shp_z0 shp_zn) rfl
    · exact owe_put 8 rfl (wants_all rfl) rfl (by kernel_rfl) rfl (opnd_op 5 25 (by kernel_rfl) rfl) (stores_of strct_int shp_z0 shp_zn) rfl
    · exact owe_move rfl (wants_all rfl) (Or.inr rfl) (opnd_op 6 26 (by kernel_rfl) rfl) rfl
  intro B3 a3 W3 S3
  replace S3 : Sta w 146 [(2, (.box 24 (Zx s p n c xs))), (3, (.box 24 (Zx t q m d ys))), (5, (.box 24 ((ZN (fl A B)) w.heap.size))), (6, (.box 24 ((ZN (rm A B)) w.heap.size)))] [(7, (Is (.int .i64 0))), (19, (Is (.bool false))), (4, (Is (.bool false)))] B3 a3 W3 := S3
  refine wp_stmt_seq [.val (Zx s p n c xs),
      .val (Zx t q m d ys),
      .val ((TWO (ZN (nr A B)) (IS (.int .i64 0))) w.heap.size),
      .val ((TWO (ZN (nr A B)) (IS (.int .i64 0))) w.heap.size),
      .val ((ZN (nr A B)) w.heap.size),
      .val (Is (.int .i64 0)),
      .new (.box 24 (Is (.agg #[.bool false, .slice none 0 0]))),
      .put (.inr 6) (.box 24 ((ZN (nr A B)) w.heap.size)),
      .val (Is (.int .i64 0))] [.inr 0, .inr 1, .inr 2, .inr 3, .inl 6] [.inl 8, .inr 0, .inr 1, .inr 2] follows S3 rfl (by kernel_rfl) ?_ ?_
  · refine ⟨⟨⟨⟨⟨⟨⟨⟨⟨trivial, ?_⟩, ?_⟩, ?_⟩, ?_⟩, ?_⟩, ?_⟩, ?_⟩, ?_⟩, ?_⟩
    · exact owe_load rfl (wants_all rfl) rfl (k := 0) rfl (by kernel_rfl) (loads_of strct_int shp_zx) rfl
    · exact owe_load rfl (wants_all rfl) rfl (k := 1) rfl (by kernel_rfl) (loads_of strct_int shp_zx) rfl
    · exact owe_call2 rfl (wants_all rfl) rfl (opnd_op 0 28 (by kernel_rfl) rfl) (opnd_op 1 29 (by kernel_rfl) rfl) (fresh_two (fresh_zn _) (fresh_is _)) rfl (fun args w => by go_simp) (fun w u v h1 h2 => g_znear hB (by omega) w u v ((zx_zv' eA (Nat.le_refl _)) _ _ h1) ((zx_zv' eB (Nat.le_refl _)) _ _ h2))
    · exact owe_move rfl (wants_all rfl) (Or.inl rfl) (opnd_op 2 30 (by kernel_rfl) rfl) rfl
    · exact owe_ext2 rfl (wants_all rfl) rfl (opnd_op 3 27 (by kernel_rfl) rfl) (Or.inl ⟨rfl, rfl⟩) rfl
    · exact owe_ext2 rfl (wants_all rfl) rfl (opnd_op 3 27 (by kernel_rfl) rfl) (Or.inr ⟨rfl, rfl⟩) rfl
    · exact owe_new rfl (wants_all rfl) rfl rfl (fun ρ w => alloc_int ρ _ w)
    · exact owe_put 6 rfl (wants_all rfl) rfl (by kernel_rfl) rfl (opnd_op 4 31 (by kernel_rfl) rfl) (stores_of strct_int shp_z0 shp_zn) rfl
    · exact owe_move rfl (wants_all rfl) (Or.inr rfl) (opnd_op 5 32 (by kernel_rfl) rfl) rfl
  intro B4 a4 W4 S4
  replace S4 : Sta w 146 [(2, (.box 24 (Zx s p n c xs))), (3, (.box 24 (Zx t q m d ys))), (5, (.box 24 ((ZN (fl A B)) w.heap.size))), (6, (.box 24 ((ZN (rm A B)) w.heap.size))), (8, (.box 24 ((ZN (nr A B)) w.heap.size)))] [(9, (Is (.int .i64 0))), (7, (Is (.int .i64 0))), (19, (Is (.bool false))), (4, (Is (.bool false)))] B4 a4 W4 := S4
  refine wp_seq ?_
  refine wp_stmt_seq [.val (Zx t q m d ys),
      .val (Is (.int .i64 (B).sign)),
      .val (Is (.bool false))] [.inr 0, .inr 1, .inr 2, .inr 3, .inr 4] [.inl 2, .inr 0, .inr 1, .inr 2, .inr 3] follows S4 rfl (by kernel_rfl) ?_ ?_
  · refine ⟨⟨⟨trivial, ?_⟩, ?_⟩, ?_⟩
    · exact owe_load rfl (wants_all rfl) rfl (k := 1) rfl (by kernel_rfl) (loads_of strct_int shp_zx) rfl
    · exact owe_call1 rfl (wants_all rfl) rfl (opnd_op 0 33 (by kernel_rfl) rfl) (fresh_is _) rfl (fun args w => by go_simp) (fun w u h1 => g_zsignB (by omega) w u ((zx_zv' eB (Nat.le_refl _)) _ _ h1))
    · exact owe_bin rfl (wants_all rfl) rfl (opnd_op 1 34 (by kernel_rfl) rfl) (opnd_const _) rfl (fun ρ w h1 h2 => by exact run_eql_int_f ρ _ _ _ w _ _ hb h1 h2)
  intro B5 a5 W5 S5
  replace S5 : Sta w 146 [(2, (.box 24 (Zx s p n c xs))), (3, (.box 24 (Zx t q m d ys))), (5, (.box 24 ((ZN (fl A B)) w.heap.size))), (6, (.box 24 ((ZN (rm A B)) w.heap.size))), (8, (.box 24 ((ZN (nr A B)) w.heap.size)))] [(35, (Is (.bool false))), (9, (Is (.int .i64 0))), (7, (Is (.int .i64 0))), (19, (Is (.bool false))), (4, (Is (.bool false)))] B5 a5 W5 := S5
  refine wp_cond_false (S5.bool 0 35 rfl) ?_
  refine wp_skip ?_
  refine thenN ?_
  refine wp_seq ?_
  refine wp_stmt_seq [.val (Is (.int .i64 0)),
      .val (Is (.bool false)),
      .val (Is (.bool false)),
      .val (Is (.int .i64 0)),
      .val (Is (.bool false)),
      .val (Is (.bool false)),
      .val (Is (.bool false)),
      .val ((ZN (fl A B)) w.heap.size),
      .val (Zx t q m d ys),
      .val ((ZN ((fl A B) * B)) w.heap.size),
      .val ((ZN (rm A B)) w.heap.size),
      .val ((ZN (A)) w.heap.size),
      .val (Zx s p n c xs),
      .val ((ZN (A)) w.heap.size),
      .val (Is (.bool true)),
      .val (Is (.bool false)),
      .val (Is (.bool false)),
      .val (Is (.bool false)),
      .val ((ZN (rm A B)) w.heap.size),
      .val (Is (.int .i64 (rm A B).sign)),
      .val (Is (.bool true)),
      .val (Is (.bool true)),
      .val ((ZN (rm A B)) w.heap.size),
      .val (Is (.int .i64 (rm A B).sign)),
      .val (Zx t q m d ys),
      .val (Is (.int .i64 (B).sign)),
      .val (Is (.bool false)),
      .val (Is (.bool false)),
      .val (Is (.bool false)),
      .val (Is (.bool false)),
      .val ((ZN (rm A B)) w.heap.size),
      .val ((ZN (((rm A B).natAbs : Int))) w.heap.size),
      .val (Zx t q m d ys),
      .val ((ZN (((B).natAbs : Int))) w.heap.size),
      .val (Is (.int .i64 ((((rm A B).natAbs : Int)) - (((B).natAbs : Int))).sign)),
      .val (Is (.bool false)),
      .val (Is (.bool false))] [.inr 0, .inr 1, .inr 2, .inr 3, .inr 4] [.inl 36, .inr 0, .inr 1, .inr 2, .inr 3, .inr 4] follows S5 rfl (by kernel_rfl) ?_ ?_
  · refine ⟨⟨⟨⟨⟨⟨⟨⟨⟨⟨⟨⟨⟨⟨⟨⟨⟨⟨⟨⟨⟨⟨⟨⟨⟨⟨⟨⟨⟨⟨⟨⟨⟨⟨⟨⟨⟨trivial, ?_⟩, ?_⟩, ?_⟩, ?_⟩, ?_⟩, ?_⟩, ?_⟩, ?_⟩, ?_⟩, ?_⟩, ?_⟩, ?_⟩, ?_⟩, ?_⟩, ?_⟩, ?_⟩, ?_⟩, ?_⟩, ?_⟩, ?_⟩, ?_⟩, ?_⟩, ?_⟩, ?_⟩, ?_⟩, ?_⟩, ?_⟩, ?_⟩, ?_⟩, ?_⟩, ?_⟩, ?_⟩, ?_⟩, ?_⟩, ?_⟩, ?_⟩, ?_⟩
    · exact owe_move rfl (wants_all rfl) (Or.inl rfl) (opnd_slot 2 7 rfl (by kernel_rfl)) rfl
    · exact owe_bin rfl (wants_all rfl) rfl (opnd_op 0 42 (by kernel_rfl) rfl) (opnd_const _) rfl (fun ρ w h1 h2 => by exact run_neq_errno_f ρ _ _ _ w _ _ rfl h1 h2)
    · exact owe_move rfl (wants_all rfl) (Or.inl rfl) (opnd_op 1 43 (by kernel_rfl) rfl) rfl
    · exact owe_move rfl (wants_if 2 44 rfl (by kernel_rfl) rfl) (Or.inl rfl) (opnd_slot 1 9 rfl (by kernel_rfl)) rfl
    · exact owe_bin rfl (wants_if 2 44 rfl (by kernel_rfl) rfl) rfl (opnd_op 3 45 (by kernel_rfl) rfl) (opnd_const _) rfl (fun ρ w h1 h2 => by exact run_neq_errno_f ρ _ _ _ w _ _ rfl h1 h2)
    · exact owe_pick rfl (wants_all rfl) rfl (opnd_op 2 44 (by kernel_rfl) rfl) (fun h => nomatch h) (fun _ => (opnd_op 4 46 (by kernel_rfl) rfl)) rfl
    · exact owe_move rfl (wants_all rfl) (Or.inl rfl) (opnd_op 5 47 (by kernel_rfl) rfl) rfl
    · exact owe_load rfl (wants_if 6 48 rfl (by kernel_rfl) rfl) rfl (k := 2) rfl (by kernel_rfl) (loads_of strct_int shp_zn) rfl
    · exact owe_load rfl (wants_if 6 48 rfl (by kernel_rfl) rfl) rfl (k := 1) rfl (by kernel_rfl) (loads_of strct_int shp_zx) rfl
    · exact owe_call2 rfl (wants_if 6 48 rfl (by kernel_rfl) rfl) rfl (opnd_op 7 49 (by kernel_rfl) rfl) (opnd_op 8 50 (by kernel_rfl) rfl) (fresh_zn _) rfl (fun args w => by go_simp) (fun w u v h1 h2 => g_zmul (by omega) w u v ((zn_zv dq) _ _ h1) ((zx_zv' eB (Nat.le_refl _)) _ _ h2))
    · exact owe_load rfl (wants_if 6 48 rfl (by kernel_rfl) rfl) rfl (k := 3) rfl (by kernel_rfl) (loads_of strct_int shp_zn) rfl
    · exact owe_call2 rfl (wants_if 6 48 rfl (by kernel_rfl) rfl) rfl (opnd_op 9 51 (by kernel_rfl) rfl) (opnd_op 10 52 (by kernel_rfl) rfl) (fresh_zn _) rfl (fun args w => by go_simp) (fun w u0 u1 h0 h1 => Gives.cast ((fun w u v h1 h2 => g_zadd (by omega) (by omega) w u v ((zn_zv dqB) _ _ h1) ((zn_zv dr) _ _ h2)) w u0 u1 h0 h1) (by rw [← rb.1]))
    · exact owe_load rfl (wants_if 6 48 rfl (by kernel_rfl) rfl) rfl (k := 0) rfl (by kernel_rfl) (loads_of strct_int shp_zx) rfl
    · exact owe_call1 rfl (wants_if 6 48 rfl (by kernel_rfl) rfl) rfl (opnd_op 12 54 (by kernel_rfl) rfl) (fresh_zn _) rfl (fun args w => by go_simp) (fun w u h1 => g_zformB (by omega) w u ((zx_zv' eA (Nat.le_refl _)) _ _ h1))
    · exact owe_call2 rfl (wants_if 6 48 rfl (by kernel_rfl) rfl) rfl (opnd_op 11 53 (by kernel_rfl) rfl) (opnd_op 13 55 (by kernel_rfl) rfl) (fresh_is _) rfl (fun args w => by go_simp) g_eq
    · exact owe_un (x := .tmp 56) rfl (wants_if 6 48 rfl (by kernel_rfl) rfl) rfl (opnd_op 14 56 (by kernel_rfl) rfl) rfl (fun ρ w h1 => run_not ρ _ _ w _ h1)
    · exact owe_pick rfl (wants_all rfl) rfl (opnd_op 6 48 (by kernel_rfl) rfl) (fun h => nomatch h) (fun _ => (opnd_op 15 57 (by kernel_rfl) rfl)) rfl
    · exact owe_move rfl (wants_all rfl) (Or.inl rfl) (opnd_op 16 58 (by kernel_rfl) rfl) rfl
    · exact owe_load rfl (wants_if 17 59 rfl (by kernel_rfl) rfl) rfl (k := 3) rfl (by kernel_rfl) (loads_of strct_int shp_zn) rfl
    · exact owe_call1 rfl (wants_if 17 59 rfl (by kernel_rfl) rfl) rfl (opnd_op 18 60 (by kernel_rfl) rfl) (fresh_is _) rfl (fun args w => by go_simp) (fun w u h1 => g_zsignB (by omega) w u ((zn_zv dr) _ _ h1))
    · exact owe_bin rfl (wants_if 17 59 rfl (by kernel_rfl) rfl) rfl (opnd_op 19 61 (by kernel_rfl) rfl) (opnd_const _) rfl (fun ρ w h1 h2 => by exact run_neq_int_t ρ _ _ _ w _ _ (fun e => hr (Int.sign_eq_zero_iff_zero.1 e)) h1 h2)
    · exact owe_move rfl (wants_if 17 59 rfl (by kernel_rfl) rfl) (Or.inl rfl) (opnd_op 20 62 (by kernel_rfl) rfl) rfl
    · exact owe_load rfl (wants_if 21 63 rfl (by kernel_rfl) rfl) rfl (k := 3) rfl (by kernel_rfl) (loads_of strct_int shp_zn) rfl
    · exact owe_call1 rfl (wants_if 21 63 rfl (by kernel_rfl) rfl) rfl (opnd_op 22 64 (by kernel_rfl) rfl) (fresh_is _) rfl (fun args w => by go_simp) (fun w u h1 => g_zsignB (by omega) w u ((zn_zv dr) _ _ h1))
    · exact owe_load rfl (wants_if 21 63 rfl (by kernel_rfl) rfl) rfl (k := 1) rfl (by kernel_rfl) (loads_of strct_int shp_zx) rfl
    · exact owe_call1 rfl (wants_if 21 63 rfl (by kernel_rfl) rfl) rfl (opnd_op 24 66 (by kernel_rfl) rfl) (fresh_is _) rfl (fun args w => by go_simp) (fun w u h1 => g_zsignB (by omega) w u ((zx_zv' eB (Nat.le_refl _)) _ _ h1))
    · exact owe_bin rfl (wants_if 21 63 rfl (by kernel_rfl) rfl) rfl (opnd_op 23 65 (by kernel_rfl) rfl) (opnd_op 25 67 (by kernel_rfl) rfl) rfl (fun ρ w h1 h2 => by exact run_neq_int_f ρ _ _ _ w _ _ (rm_sign hB hr) h1 h2)
    · exact owe_pick rfl (wants_if 17 59 rfl (by kernel_rfl) rfl) rfl (opnd_op 21 63 (by kernel_rfl) rfl) (fun _ => (opnd_op 26 68 (by kernel_rfl) rfl)) (fun h => nomatch h) rfl
    · exact owe_pick rfl (wants_all rfl) rfl (opnd_op 17 59 (by kernel_rfl) rfl) (fun h => nomatch h) (fun _ => (opnd_op 27 69 (by kernel_rfl) rfl)) rfl
    · exact owe_move rfl (wants_all rfl) (Or.inl rfl) (opnd_op 28 70 (by kernel_rfl) rfl) rfl
    · exact owe_load rfl (wants_if 29 71 rfl (by kernel_rfl) rfl) rfl (k := 3) rfl (by kernel_rfl) (loads_of strct_int shp_zn) rfl
    · exact owe_call1 rfl (wants_if 29 71 rfl (by kernel_rfl) rfl) rfl (opnd_op 30 72 (by kernel_rfl) rfl) (fresh_zn _) rfl (fun args w => by go_simp) (fun w u h1 => g_zabsB (by omega) w u ((zn_zv dr) _ _ h1))
    · exact owe_load rfl (wants_if 29 71 rfl (by kernel_rfl) rfl) rfl (k := 1) rfl (by kernel_rfl) (loads_of strct_int shp_zx) rfl
    · exact owe_call1 rfl (wants_if 29 71 rfl (by kernel_rfl) rfl) rfl (opnd_op 32 74 (by kernel_rfl) rfl) (fresh_zn _) rfl (fun args w => by go_simp) (fun w u h1 => g_zabsB (by omega) w u ((zx_zv' eB (Nat.le_refl _)) _ _ h1))
    · exact owe_call2 rfl (wants_if 29 71 rfl (by kernel_rfl) rfl) rfl (opnd_op 31 73 (by kernel_rfl) rfl) (opnd_op 33 75 (by kernel_rfl) rfl) (fresh_is _) rfl (fun args w => by go_simp) (fun w u v h1 h2 => g_zcmpB (by omega) (by omega) w u v ((zn_zv drn) _ _ h1) ((zn_zv dBn) _ _ h2))
    · exact owe_bin rfl (wants_if 29 71 rfl (by kernel_rfl) rfl) rfl (opnd_op 34 76 (by kernel_rfl) rfl) (opnd_const _) rfl (fun ρ w h1 h2 => by exact run_geq_int_f ρ _ _ _ w _ _ (sgn_neg_of hsm) h1 h2)
    · exact owe_pick rfl (wants_all rfl) rfl (opnd_op 29 71 (by kernel_rfl) rfl) (fun h => nomatch h) (fun _ => (opnd_op 35 77 (by kernel_rfl) rfl)) rfl
  intro B6 a6 W6 S6
  replace S6 : Sta w 146 [(2, (.box 24 (Zx s p n c xs))), (3, (.box 24 (Zx t q m d ys))), (5, (.box 24 ((ZN (fl A B)) w.heap.size))), (6, (.box 24 ((ZN (rm A B)) w.heap.size))), (8, (.box 24 ((ZN (nr A B)) w.heap.size)))] [(78, (Is (.bool false))), (35, (Is (.bool false))), (9, (Is (.int .i64 0))), (7, (Is (.int .i64 0))), (19, (Is (.bool false))), (4, (Is (.bool false)))] B6 a6 W6 := S6
  refine wp_cond_false (S6.bool 0 78 rfl) ?_
  refine wp_skip ?_
  refine thenN ?_
  refine wp_stmt_seq [.val ((ZN (2)) w.heap.size),
      .val ((ZN (nr A B)) w.heap.size),
      .val (Zx t q m d ys),
      .val ((ZN ((nr A B) * B)) w.heap.size),
      .val (Zx s p n c xs),
      .val ((ZN (((nr A B) * B) - A)) w.heap.size),
      .val ((ZN (((((nr A B) * B) - A).natAbs : Int))) w.heap.size),
      .val ((ZN (2 * (((((nr A B) * B) - A).natAbs : Int)))) w.heap.size),
      .new (.box 24 (Is (.agg #[.bool false, .slice none 0 0]))),
      .put (.inr 8) (.box 24 ((ZN (2 * (((((nr A B) * B) - A).natAbs : Int)))) w.heap.size))] [.inr 0, .inr 1, .inr 2, .inr 3, .inr 4, .inl 8] [.inr 0, .inr 1, .inr 2, .inr 3, .inr 4, .inr 5] follows S6 rfl (by kernel_rfl) ?_ ?_
  · refine ⟨⟨⟨⟨⟨⟨⟨⟨⟨⟨trivial, ?_⟩, ?_⟩, ?_⟩, ?_⟩, ?_⟩, ?_⟩, ?_⟩, ?_⟩, ?_⟩, ?_⟩
    · exact owe_call1 rfl (wants_all rfl) rfl (opnd_const _) (fresh_zn _) rfl (fun args w => by go_simp) (g_zof 2 (by omega) (by omega))
    · exact owe_load rfl (wants_all rfl) rfl (k := 4) rfl (by kernel_rfl) (loads_of strct_int shp_zn) rfl
    · exact owe_load rfl (wants_all rfl) rfl (k := 1) rfl (by kernel_rfl) (loads_of strct_int shp_zx) rfl
    · exact owe_call2 rfl (wants_all rfl) rfl (opnd_op 1 80 (by kernel_rfl) rfl) (opnd_op 2 81 (by kernel_rfl) rfl) (fresh_zn _) rfl (fun args w => by go_simp) (fun w u v h1 h2 => g_zmul (by omega) w u v ((zn_zv dn) _ _ h1) ((zx_zv' eB (Nat.le_refl _)) _ _ h2))
    · exact owe_load rfl (wants_all rfl) rfl (k := 0) rfl (by kernel_rfl) (loads_of strct_int shp_zx) rfl
    · exact owe_call2 rfl (wants_all rfl) rfl (opnd_op 3 82 (by kernel_rfl) rfl) (opnd_op 4 83 (by kernel_rfl) rfl) (fresh_zn _) rfl (fun args w => by go_simp) (fun w u v h1 h2 => g_zsub (by omega) (by omega) w u v ((zn_zv dnB) _ _ h1) ((zx_zv' eA (Nat.le_refl _)) _ _ h2))
    · exact owe_call1 rfl (wants_all rfl) rfl (opnd_op 5 84 (by kernel_rfl) rfl) (fresh_zn _) rfl (fun args w => by go_simp) (fun w u h1 => g_zabsB (by omega) w u ((zn_zv dnS) _ _ h1))
    · exact owe_call2 rfl (wants_all rfl) rfl (opnd_op 0 79 (by kernel_rfl) rfl) (opnd_op 6 85 (by kernel_rfl) rfl) (fresh_zn _) rfl (fun args w => by go_simp) (fun w u v h1 h2 => g_zmul (by omega) w u v ((zn_zv dtw) _ _ h1) ((zn_zv dnN) _ _ h2))
    · exact owe_new rfl (wants_all rfl) rfl rfl (fun ρ w => alloc_int ρ _ w)
    · exact owe_put 8 rfl (wants_all rfl) rfl (by kernel_rfl) rfl (opnd_op 7 86 (by kernel_rfl) rfl) (stores_of strct_int shp_z0 shp_zn) rfl
  intro B7 a7 W7 S7
  replace S7 : Sta w 146 [(2, (.box 24 (Zx s p n c xs))), (3, (.box 24 (Zx t q m d ys))), (5, (.box 24 ((ZN (fl A B)) w.heap.size))), (6, (.box 24 ((ZN (rm A B)) w.heap.size))), (8, (.box 24 ((ZN (nr A B)) w.heap.size))), (10, (.box 24 ((ZN (2 * (((((nr A B) * B) - A).natAbs : Int)))) w.heap.size)))] [(78, (Is (.bool false))), (35, (Is (.bool false))), (9, (Is (.int .i64 0))), (7, (Is (.int .i64 0))), (19, (Is (.bool false))), (4, (Is (.bool false)))] B7 a7 W7 := S7
  refine wp_seq ?_
  refine wp_stmt_seq [.val ((ZN (2 * (((((nr A B) * B) - A).natAbs : Int)))) w.heap.size),
      .val (Zx t q m d ys),
      .val ((ZN (((B).natAbs : Int))) w.heap.size),
      .val (Is (.int .i64 ((2 * (((((nr A B) * B) - A).natAbs : Int))) - (((B).natAbs : Int))).sign)),
      .val (Is (.bool false))] [.inr 0, .inr 1, .inr 2, .inr 3, .inr 4, .inr 5] [.inl 4, .inr 0, .inr 1, .inr 2, .inr 3, .inr 4, .inr 5] follows S7 rfl (by kernel_rfl) ?_ ?_
  · refine ⟨⟨⟨⟨⟨trivial, ?_⟩, ?_⟩, ?_⟩, ?_⟩, ?_⟩
    · exact owe_load rfl (wants_all rfl) rfl (k := 5) rfl (by kernel_rfl) (loads_of strct_int shp_zn) rfl
    · exact owe_load rfl (wants_all rfl) rfl (k := 1) rfl (by kernel_rfl) (loads_of strct_int shp_zx) rfl
    · exact owe_call1 rfl (wants_all rfl) rfl (opnd_op 1 88 (by kernel_rfl) rfl) (fresh_zn _) rfl (fun args w => by go_simp) (fun w u h1 => g_zabsB (by omega) w u ((zx_zv' eB (Nat.le_refl _)) _ _ h1))
    · exact owe_call2 rfl (wants_all rfl) rfl (opnd_op 0 87 (by kernel_rfl) rfl) (opnd_op 2 89 (by kernel_rfl) rfl) (fresh_is _) rfl (fun args w => by go_simp) (fun w u v h1 h2 => g_zcmpB (by omega) (by omega) w u v ((zn_zv (Nat.le_refl _)) _ _ h1) ((zn_zv dBn) _ _ h2))
    · exact owe_bin rfl (wants_all rfl) rfl (opnd_op 3 90 (by kernel_rfl) rfl) (opnd_const _) rfl (fun ρ w h1 h2 => by exact run_gtr_int_f ρ _ _ _ w _ _ (sgn_le_of (by omega)) h1 h2)
  intro B8 a8 W8 S8
  replace S8 : Sta w 146 [(2, (.box 24 (Zx s p n c xs))), (3, (.box 24 (Zx t q m d ys))), (5, (.box 24 ((ZN (fl A B)) w.heap.size))), (6, (.box 24 ((ZN (rm A B)) w.heap.size))), (8, (.box 24 ((ZN (nr A B)) w.heap.size))), (10, (.box 24 ((ZN (2 * (((((nr A B) * B) - A).natAbs : Int)))) w.heap.size)))] [(91, (Is (.bool false))), (78, (Is (.bool false))), (35, (Is (.bool false))), (9, (Is (.int .i64 0))), (7, (Is (.int .i64 0))), (19, (Is (.bool false))), (4, (Is (.bool false)))] B8 a8 W8 := S8
  refine wp_cond_false (S8.bool 0 91 rfl) ?_
  refine wp_skip ?_
  refine thenN ?_
  refine wp_stmt_seq [.val (Zx s p n c xs),
      .val (Zx t q m d ys),
      .val ((THREE (ZN ((gz A B : Int))) (ZN (bzX A B)) (ZN (fl ((gz A B : Int) - (bzX A B * A)) B))) w.heap.size),
      .val ((THREE (ZN ((gz A B : Int))) (ZN (bzX A B)) (ZN (fl ((gz A B : Int) - (bzX A B * A)) B))) w.heap.size),
      .val ((ZN ((gz A B : Int))) w.heap.size),
      .val ((ZN (bzX A B)) w.heap.size),
      .val ((ZN (fl ((gz A B : Int) - (bzX A B * A)) B)) w.heap.size),
      .new (.box 24 (Is (.agg #[.bool false, .slice none 0 0]))),
      .new (.box 24 (Is (.agg #[.bool false, .slice none 0 0]))),
      .new (.box 24 (Is (.agg #[.bool false, .slice none 0 0]))),
      .put (.inr 7) (.box 24 ((ZN ((gz A B : Int))) w.heap.size)),
      .put (.inr 8) (.box 24 ((ZN (bzX A B)) w.heap.size)),
      .put (.inr 9) (.box 24 ((ZN (fl ((gz A B : Int) - (bzX A B * A)) B)) w.heap.size))] [.inr 0, .inr 1, .inr 2, .inr 3, .inr 4, .inr 5, .inl 7, .inl 8, .inl 9] [.inr 0, .inr 1, .inr 2, .inr 3, .inr 4, .inr 5, .inr 6] follows S8 rfl (by kernel_rfl) ?_ ?_
  · refine ⟨⟨⟨⟨⟨⟨⟨⟨⟨⟨⟨⟨⟨trivial, ?_⟩, ?_⟩, ?_⟩, ?_⟩, ?_⟩, ?_⟩, ?_⟩, ?_⟩, ?_⟩, ?_⟩, ?_⟩, ?_⟩, ?_⟩
    · exact owe_load rfl (wants_all rfl) rfl (k := 0) rfl (by kernel_rfl) (loads_of strct_int shp_zx) rfl
    · exact owe_load rfl (wants_all rfl) rfl (k := 1) rfl (by kernel_rfl) (loads_of strct_int shp_zx) rfl
    · exact owe_call2 rfl (wants_all rfl) rfl (opnd_op 0 93 (by kernel_rfl) rfl) (opnd_op 1 94 (by kernel_rfl) rfl) (fresh_three (fresh_zn _) (fresh_zn _) (fresh_zn _)) rfl (fun args w => by go_simp) (fun w u v h1 h2 => g_zbez hB (by omega) (by omega) w u v ((zx_zv' eA (Nat.le_refl _)) _ _ h1) ((zx_zv' eB (Nat.le_refl _)) _ _ h2))
    · exact owe_move rfl (wants_all rfl) (Or.inl rfl) (opnd_op 2 95 (by kernel_rfl) rfl) rfl
    · exact owe_ext3 rfl (wants_all rfl) rfl (opnd_op 3 92 (by kernel_rfl) rfl) (Or.inl ⟨rfl, rfl⟩) rfl
    · exact owe_ext3 rfl (wants_all rfl) rfl (opnd_op 3 92 (by kernel_rfl) rfl) (Or.inr (Or.inl ⟨rfl, rfl⟩)) rfl
    · exact owe_ext3 rfl (wants_all rfl) rfl (opnd_op 3 92 (by kernel_rfl) rfl) (Or.inr (Or.inr ⟨rfl, rfl⟩)) rfl
    · exact owe_new rfl (wants_all rfl) rfl rfl (fun ρ w => alloc_int ρ _ w)
    · exact owe_new rfl (wants_all rfl) rfl rfl (fun ρ w => alloc_int ρ _ w)
    · exact owe_new rfl (wants_all rfl) rfl rfl (fun ρ w => alloc_int ρ _ w)
    · exact owe_put 7 rfl (wants_all rfl) rfl (by kernel_rfl) rfl (opnd_op 4 96 (by kernel_rfl) rfl) (stores_of strct_int shp_z0 shp_zn) rfl
    · exact owe_put 8 rfl (wants_all rfl) rfl (by kernel_rfl) rfl (opnd_op 5 97 (by kernel_rfl) rfl) (stores_of strct_int shp_z0 shp_zn) rfl
    · exact owe_put 9 rfl (wants_all rfl) rfl (by kernel_rfl) rfl (opnd_op 6 98 (by kernel_rfl) rfl) (stores_of strct_int shp_z0 shp_zn) rfl
  intro B9 a9 W9 S9
  replace S9 : Sta w 146 [(2, (.box 24 (Zx s p n c xs))), (3, (.box 24 (Zx t q m d ys))), (5, (.box 24 ((ZN (fl A B)) w.heap.size))), (6, (.box 24 ((ZN (rm A B)) w.heap.size))), (8, (.box 24 ((ZN (nr A B)) w.heap.size))), (10, (.box 24 ((ZN (2 * (((((nr A B) * B) - A).natAbs : Int)))) w.heap.size))), (11, (.box 24 ((ZN ((gz A B : Int))) w.heap.size))), (12, (.box 24 ((ZN (bzX A B)) w.heap.size))), (13, (.box 24 ((ZN (fl ((gz A B : Int) - (bzX A B * A)) B)) w.heap.size)))] [(91, (Is (.bool false))), (78, (Is (.bool false))), (35, (Is (.bool false))), (9, (Is (.int .i64 0))), (7, (Is (.int .i64 0))), (19, (Is (.bool false))), (4, (Is (.bool false)))] B9 a9 W9 := S9
  refine wp_seq ?_
  refine wp_stmt_seq [.val ((ZN (bzX A B)) w.heap.size),
      .val (Zx s p n c xs),
      .val ((ZN ((bzX A B) * A)) w.heap.size),
      .val ((ZN (fl ((gz A B : Int) - (bzX A B * A)) B)) w.heap.size),
      .val (Zx t q m d ys),
      .val ((ZN ((fl ((gz A B : Int) - (bzX A B * A)) B) * B)) w.heap.size),
      .val ((ZN ((gz A B : Int))) w.heap.size),
      .val ((ZN ((gz A B : Int))) w.heap.size),
      .val (Is (.bool true)),
      .val (Is (.bool false)),
      .val (Is (.bool false)),
      .val ((ZN ((gz A B : Int))) w.heap.size),
      .val (Is (.int .i64 ((gz A B : Int)).sign)),
      .val (Is (.bool false)),
      .val (Is (.bool false))] [.inr 0, .inr 1, .inr 2, .inr 3, .inr 4, .inr 5, .inr 6, .inr 7, .inr 8] [.inl 14, .inr 0, .inr 1, .inr 2, .inr 3, .inr 4, .inr 5, .inr 6] follows S9 rfl (by kernel_rfl) ?_ ?_
  · refine ⟨⟨⟨⟨⟨⟨⟨⟨⟨⟨⟨⟨⟨⟨⟨trivial, ?_⟩, ?_⟩, ?_⟩, ?_⟩, ?_⟩, ?_⟩, ?_⟩, ?_⟩, ?_⟩, ?_⟩, ?_⟩, ?_⟩, ?_⟩, ?_⟩, ?_⟩
    · exact owe_load rfl (wants_all rfl) rfl (k := 7) rfl (by kernel_rfl) (loads_of strct_int shp_zn) rfl
    · exact owe_load rfl (wants_all rfl) rfl (k := 0) rfl (by kernel_rfl) (loads_of strct_int shp_zx) rfl
    · exact owe_call2 rfl (wants_all rfl) rfl (opnd_op 0 99 (by kernel_rfl) rfl) (opnd_op 1 100 (by kernel_rfl) rfl) (fresh_zn _) rfl (fun args w => by go_simp) (fun w u v h1 h2 => g_zmul (by omega) w u v ((zn_zv dX) _ _ h1) ((zx_zv' eA (Nat.le_refl _)) _ _ h2))
    · exact owe_load rfl (wants_all rfl) rfl (k := 8) rfl (by kernel_rfl) (loads_of strct_int shp_zn) rfl
    · exact owe_load rfl (wants_all rfl) rfl (k := 1) rfl (by kernel_rfl) (loads_of strct_int shp_zx) rfl
    · exact owe_call2 rfl (wants_all rfl) rfl (opnd_op 3 102 (by kernel_rfl) rfl) (opnd_op 4 103 (by kernel_rfl) rfl) (fresh_zn _) rfl (fun args w => by go_simp) (fun w u v h1 h2 => g_zmul (by omega) w u v ((zn_zv dF) _ _ h1) ((zx_zv' eB (Nat.le_refl _)) _ _ h2))
    · exact owe_call2 rfl (wants_all rfl) rfl (opnd_op 2 101 (by kernel_rfl) rfl) (opnd_op 5 104 (by kernel_rfl) rfl) (fresh_zn _) rfl (fun args w => by go_simp) (fun w u0 u1 h0 h1 => Gives.cast ((fun w u v h1 h2 => g_zadd (by omega) (by omega) w u v ((zn_zv dXA) _ _ h1) ((zn_zv dFB) _ _ h2)) w u0 u1 h0 h1) (by rw [hsum]))
    · exact owe_load rfl (wants_all rfl) rfl (k := 6) rfl (by kernel_rfl) (loads_of strct_int shp_zn) rfl
    · exact owe_call2 rfl (wants_all rfl) rfl (opnd_op 6 105 (by kernel_rfl) rfl) (opnd_op 7 106 (by kernel_rfl) rfl) (fresh_is _) rfl (fun args w => by go_simp) g_eq
    · exact owe_un (x := .tmp 107) rfl (wants_all rfl) rfl (opnd_op 8 107 (by kernel_rfl) rfl) rfl (fun ρ w h1 => run_not ρ _ _ w _ h1)
    · exact owe_move rfl (wants_all rfl) (Or.inl rfl) (opnd_op 9 108 (by kernel_rfl) rfl) rfl
    · exact owe_load rfl (wants_if 10 109 rfl (by kernel_rfl) rfl) rfl (k := 6) rfl (by kernel_rfl) (loads_of strct_int shp_zn) rfl
    · exact owe_call1 rfl (wants_if 10 109 rfl (by kernel_rfl) rfl) rfl (opnd_op 11 110 (by kernel_rfl) rfl) (fresh_is _) rfl (fun args w => by go_simp) (fun w u h1 => g_zsignB (by omega) w u ((zn_zv dG) _ _ h1))
    · exact owe_bin rfl (wants_if 10 109 rfl (by kernel_rfl) rfl) rfl (opnd_op 12 111 (by kernel_rfl) rfl) (opnd_const _) rfl (fun ρ w h1 h2 => by exact run_leq_int_f ρ _ _ _ w _ _ (sgn_gt_of (by omega)) h1 h2)
    · exact owe_pick rfl (wants_all rfl) rfl (opnd_op 10 109 (by kernel_rfl) rfl) (fun h => nomatch h) (fun _ => (opnd_op 13 112 (by kernel_rfl) rfl)) rfl
  intro B10 a10 W10 S10
  replace S10 : Sta w 146 [(2, (.box 24 (Zx s p n c xs))), (3, (.box 24 (Zx t q m d ys))), (5, (.box 24 ((ZN (fl A B)) w.heap.size))), (6, (.box 24 ((ZN (rm A B)) w.heap.size))), (8, (.box 24 ((ZN (nr A B)) w.heap.size))), (10, (.box 24 ((ZN (2 * (((((nr A B) * B) - A).natAbs : Int)))) w.heap.size))), (11, (.box 24 ((ZN ((gz A B : Int))) w.heap.size))), (12, (.box 24 ((ZN (bzX A B)) w.heap.size))), (13, (.box 24 ((ZN (fl ((gz A B : Int) - (bzX A B * A)) B)) w.heap.size)))] [(113, (Is (.bool false))), (91, (Is (.bool false))), (78, (Is (.bool false))), (35, (Is (.bool false))), (9, (Is (.int .i64 0))), (7, (Is (.int .i64 0))), (19, (Is (.bool false))), (4, (Is (.bool false)))] B10 a10 W10 := S10
  refine wp_cond_false (S10.bool 0 113 rfl) ?_
  refine wp_skip ?_
  refine thenN ?_
  refine wp_stmt_seq [.val (Zx s p n c xs),
      .val ((ZN ((gz A B : Int))) w.heap.size),
      .val ((TWO (ZN (fl A ((gz A B : Int)))) (IS (.int .i64 0))) w.heap.size),
      .val ((TWO (ZN (fl A ((gz A B : Int)))) (IS (.int .i64 0))) w.heap.size),
      .val ((ZN (fl A ((gz A B : Int)))) w.heap.size),
      .val (Is (.int .i64 0)),
      .new (.box 24 (Is (.agg #[.bool false, .slice none 0 0]))),
      .put (.inr 6) (.box 24 ((ZN (fl A ((gz A B : Int)))) w.heap.size)),
      .val (Is (.int .i64 0))] [.inr 0, .inr 1, .inr 2, .inr 3, .inr 4, .inr 5, .inr 6, .inr 7, .inr 8, .inl 6] [.inl 8, .inr 0, .inr 1, .inr 2, .inr 3, .inr 4, .inr 5, .inr 6, .inr 7] follows S10 rfl (by kernel_rfl) ?_ ?_
  · refine ⟨⟨⟨⟨⟨⟨⟨⟨⟨trivial, ?_⟩, ?_⟩, ?_⟩, ?_⟩, ?_⟩, ?_⟩, ?_⟩, ?_⟩, ?_⟩
    · exact owe_load rfl (wants_all rfl) rfl (k := 0) rfl (by kernel_rfl) (loads_of strct_int shp_zx) rfl
    · exact owe_load rfl (wants_all rfl) rfl (k := 6) rfl (by kernel_rfl) (loads_of strct_int shp_zn) rfl
    · exact owe_call2 rfl (wants_all rfl) rfl (opnd_op 0 115 (by kernel_rfl) rfl) (opnd_op 1 116 (by kernel_rfl) rfl) (fresh_two (fresh_zn _) (fresh_is _)) rfl (fun args w => by go_simp) (fun w u v h1 h2 => g_zexact2 hgp r1 (by omega) w u v ((zx_zv' eA (Nat.le_refl _)) _ _ h1) ((zn_zv dG) _ _ h2))
    · exact owe_move rfl (wants_all rfl) (Or.inl rfl) (opnd_op 2 117 (by kernel_rfl) rfl) rfl
    · exact owe_ext2 rfl (wants_all rfl) rfl (opnd_op 3 114 (by kernel_rfl) rfl) (Or.inl ⟨rfl, rfl⟩) rfl
    · exact owe_ext2 rfl (wants_all rfl) rfl (opnd_op 3 114 (by kernel_rfl) rfl) (Or.inr ⟨rfl, rfl⟩) rfl
    · exact owe_new rfl (wants_all rfl) rfl rfl (fun ρ w => alloc_int ρ _ w)
    · exact owe_put 6 rfl (wants_all rfl) rfl (by kernel_rfl) rfl (opnd_op 4 118 (by kernel_rfl) rfl) (stores_of strct_int shp_z0 shp_zn) rfl
    · exact owe_move rfl (wants_all rfl) (Or.inr rfl) (opnd_op 5 119 (by kernel_rfl) rfl) rfl
  intro B11 a11 W11 S11
  replace S11 : Sta w 146 [(2, (.box 24 (Zx s p n c xs))), (3, (.box 24 (Zx t q m d ys))), (5, (.box 24 ((ZN (fl A B)) w.heap.size))), (6, (.box 24 ((ZN (rm A B)) w.heap.size))), (8, (.box 24 ((ZN (nr A B)) w.heap.size))), (10, (.box 24 ((ZN (2 * (((((nr A B) * B) - A).natAbs : Int)))) w.heap.size))), (11, (.box 24 ((ZN ((gz A B : Int))) w.heap.size))), (12, (.box 24 ((ZN (bzX A B)) w.heap.size))), (13, (.box 24 ((ZN (fl ((gz A B : Int) - (bzX A B * A)) B)) w.heap.size))), (14, (.box 24 ((ZN (fl A ((gz A B : Int)))) w.heap.size)))] [(15, (Is (.int .i64 0))), (113, (Is (.bool false))), (91, (Is (.bool false))), (78, (Is (.bool false))), (35, (Is (.bool false))), (9, (Is (.int .i64 0))), (7, (Is (.int .i64 0))), (19, (Is (.bool false))), (4, (Is (.bool false)))] B11 a11 W11 := S11
  refine wp_stmt_seq [.val (Zx t q m d ys),
      .val ((ZN ((gz A B : Int))) w.heap.size),
      .val ((TWO (ZN (fl B ((gz A B : Int)))) (IS (.int .i64 0))) w.heap.size),
      .val ((TWO (ZN (fl B ((gz A B : Int)))) (IS (.int .i64 0))) w.heap.size),
      .val ((ZN (fl B ((gz A B : Int)))) w.heap.size),
      .val (Is (.int .i64 0)),
      .new (.box 24 (Is (.agg #[.bool false, .slice none 0 0]))),
      .put (.inr 6) (.box 24 ((ZN (fl B ((gz A B : Int)))) w.heap.size)),
      .val (Is (.int .i64 0))] [.inr 0, .inr 1, .inr 2, .inr 3, .inr 4, .inr 5, .inr 6, .inr 7, .inr 8, .inr 9, .inl 6] [.inl 8, .inr 0, .inr 1, .inr 2, .inr 3, .inr 4, .inr 5, .inr 6, .inr 7, .inr 8] follows S11 rfl (by kernel_rfl) ?_ ?_
  · refine ⟨⟨⟨⟨⟨⟨⟨⟨⟨trivial, ?_⟩, ?_⟩, ?_⟩, ?_⟩, ?_⟩, ?_⟩, ?_⟩, ?_⟩, ?_⟩
    · exact owe_load rfl (wants_all rfl) rfl (k := 1) rfl (by kernel_rfl) (loads_of strct_int shp_zx) rfl
    · exact owe_load rfl (wants_all rfl) rfl (k := 6) rfl (by kernel_rfl) (loads_of strct_int shp_zn) rfl
    · exact owe_call2 rfl (wants_all rfl) rfl (opnd_op 0 121 (by kernel_rfl) rfl) (opnd_op 1 122 (by kernel_rfl) rfl) (fresh_two (fresh_zn _) (fresh_is _)) rfl (fun args w => by go_simp) (fun w u v h1 h2 => g_zexact2 hgp r2 (by omega) w u v ((zx_zv' eB (Nat.le_refl _)) _ _ h1) ((zn_zv dG) _ _ h2))
    · exact owe_move rfl (wants_all rfl) (Or.inl rfl) (opnd_op 2 123 (by kernel_rfl) rfl) rfl
    · exact owe_ext2 rfl (wants_all rfl) rfl (opnd_op 3 120 (by kernel_rfl) rfl) (Or.inl ⟨rfl, rfl⟩) rfl
    · exact owe_ext2 rfl (wants_all rfl) rfl (opnd_op 3 120 (by kernel_rfl) rfl) (Or.inr ⟨rfl, rfl⟩) rfl
    · exact owe_new rfl (wants_all rfl) rfl rfl (fun ρ w => alloc_int ρ _ w)
    · exact owe_put 6 rfl (wants_all rfl) rfl (by kernel_rfl) rfl (opnd_op 4 124 (by kernel_rfl) rfl) (stores_of strct_int shp_z0 shp_zn) rfl
    · exact owe_move rfl (wants_all rfl) (Or.inr rfl) (opnd_op 5 125 (by kernel_rfl) rfl) rfl
  intro B12 a12 W12 S12
  replace S12 : Sta w 146 [(2, (.box 24 (Zx s p n c xs))), (3, (.box 24 (Zx t q m d ys))), (5, (.box 24 ((ZN (fl A B)) w.heap.size))), (6, (.box 24 ((ZN (rm A B)) w.heap.size))), (8, (.box 24 ((ZN (nr A B)) w.heap.size))), (10, (.box 24 ((ZN (2 * (((((nr A B) * B) - A).natAbs : Int)))) w.heap.size))), (11, (.box 24 ((ZN ((gz A B : Int))) w.heap.size))), (12, (.box 24 ((ZN (bzX A B)) w.heap.size))), (13, (.box 24 ((ZN (fl ((gz A B : Int) - (bzX A B * A)) B)) w.heap.size))), (14, (.box 24 ((ZN (fl A ((gz A B : Int)))) w.heap.size))), (16, (.box 24 ((ZN (fl B ((gz A B : Int)))) w.heap.size)))] [(17, (Is (.int .i64 0))), (15, (Is (.int .i64 0))), (113, (Is (.bool false))), (91, (Is (.bool false))), (78, (Is (.bool false))), (35, (Is (.bool false))), (9, (Is (.int .i64 0))), (7, (Is (.int .i64 0))), (19, (Is (.bool false))), (4, (Is (.bool false)))] B12 a12 W12 := S12
  refine wp_stmt_seq [.val (Is (.int .i64 0)),
      .val (Is (.bool true)),
      .val (Is (.bool true)),
      .val (Is (.int .i64 0)),
      .val (Is (.bool true)),
      .val (Is (.bool true)),
      .val (Is (.bool true)),
      .val ((ZN (bzX A B)) w.heap.size),
      .val (Is (.int .i64 (bzX A B).sign)),
      .val (Is (.bool true)),
      .val (Is (.bool true)),
      .val (Is (.bool true)),
      .val ((ZN (bzX A B)) w.heap.size),
      .val ((ZN ((gz A B : Int))) w.heap.size),
      .val ((ZN ((bzX A B) * ((gz A B : Int)))) w.heap.size),
      .val (Zx t q m d ys),
      .val ((ZN (((B).natAbs : Int))) w.heap.size),
      .val (Is (.int .i64 (((bzX A B) * ((gz A B : Int))) - (((B).natAbs : Int))).sign)),
      .val (Is (.bool true)),
      .val (Is (.bool true)),
      .val (Is (.bool true))] [.inr 0, .inr 1, .inr 2, .inr 3, .inr 4, .inr 5, .inr 6, .inr 7, .inr 8, .inr 9, .inr 10] [.inl 20, .inr 2, .inr 3, .inr 4, .inr 5, .inr 6, .inr 7, .inr 8] follows S12 rfl (by kernel_rfl) ?_ ?_
  · refine ⟨⟨⟨⟨⟨⟨⟨⟨⟨⟨⟨⟨⟨⟨⟨⟨⟨⟨⟨⟨⟨trivial, ?_⟩, ?_⟩, ?_⟩, ?_⟩, ?_⟩, ?_⟩, ?_⟩, ?_⟩, ?_⟩, ?_⟩, ?_⟩, ?_⟩, ?_⟩, ?_⟩, ?_⟩, ?_⟩, ?_⟩, ?_⟩, ?_⟩, ?_⟩, ?_⟩
    · exact owe_move rfl (wants_all rfl) (Or.inl rfl) (opnd_slot 1 15 rfl (by kernel_rfl)) rfl
    · exact owe_bin rfl (wants_all rfl) rfl (opnd_op 0 126 (by kernel_rfl) rfl) (opnd_const _) rfl (fun ρ w h1 h2 => by exact run_eql_errno_t ρ _ _ _ w _ _ rfl h1 h2)
    · exact owe_move rfl (wants_all rfl) (Or.inl rfl) (opnd_op 1 127 (by kernel_rfl) rfl) rfl
    · exact owe_move rfl (wants_if 2 128 rfl (by kernel_rfl) rfl) (Or.inl rfl) (opnd_slot 0 17 rfl (by kernel_rfl)) rfl
    · exact owe_bin rfl (wants_if 2 128 rfl (by kernel_rfl) rfl) rfl (opnd_op 3 129 (by kernel_rfl) rfl) (opnd_const _) rfl (fun ρ w h1 h2 => by exact run_eql_errno_t ρ _ _ _ w _ _ rfl h1 h2)
    · exact owe_pick rfl (wants_all rfl) rfl (opnd_op 2 128 (by kernel_rfl) rfl) (fun _ => (opnd_op 4 130 (by kernel_rfl) rfl)) (fun h => nomatch h) rfl
    · exact owe_move rfl (wants_all rfl) (Or.inl rfl) (opnd_op 5 131 (by kernel_rfl) rfl) rfl
    · exact owe_load rfl (wants_if 6 132 rfl (by kernel_rfl) rfl) rfl (k := 7) rfl (by kernel_rfl) (loads_of strct_int shp_zn) rfl
    · exact owe_call1 rfl (wants_if 6 132 rfl (by kernel_rfl) rfl) rfl (opnd_op 7 133 (by kernel_rfl) rfl) (fresh_is _) rfl (fun args w => by go_simp) (fun w u h1 => g_zsignB (by omega) w u ((zn_zv dX) _ _ h1))
    · exact owe_bin rfl (wants_if 6 132 rfl (by kernel_rfl) rfl) rfl (opnd_op 8 134 (by kernel_rfl) rfl) (opnd_const _) rfl (fun ρ w h1 h2 => by exact run_geq_int_t ρ _ _ _ w _ _ (sgn_ge_of bp.1) h1 h2)
    · exact owe_pick rfl (wants_all rfl) rfl (opnd_op 6 132 (by kernel_rfl) rfl) (fun _ => (opnd_op 9 135 (by kernel_rfl) rfl)) (fun h => nomatch h) rfl
    · exact owe_move rfl (wants_all rfl) (Or.inl rfl) (opnd_op 10 136 (by kernel_rfl) rfl) rfl
    · exact owe_load rfl (wants_if 11 137 rfl (by kernel_rfl) rfl) rfl (k := 7) rfl (by kernel_rfl) (loads_of strct_int shp_zn) rfl
    · exact owe_load rfl (wants_if 11 137 rfl (by kernel_rfl) rfl) rfl (k := 6) rfl (by kernel_rfl) (loads_of strct_int shp_zn) rfl
    · exact owe_call2 rfl (wants_if 11 137 rfl (by kernel_rfl) rfl) rfl (opnd_op 12 138 (by kernel_rfl) rfl) (opnd_op 13 139 (by kernel_rfl) rfl) (fresh_zn _) rfl (fun args w => by go_simp) (fun w u v h1 h2 => g_zmul (by omega) w u v ((zn_zv dX) _ _ h1) ((zn_zv dG) _ _ h2))
    · exact owe_load rfl (wants_if 11 137 rfl (by kernel_rfl) rfl) rfl (k := 1) rfl (by kernel_rfl) (loads_of strct_int shp_zx) rfl
    · exact owe_call1 rfl (wants_if 11 137 rfl (by kernel_rfl) rfl) rfl (opnd_op 15 141 (by kernel_rfl) rfl) (fresh_zn _) rfl (fun args w => by go_simp) (fun w u h1 => g_zabsB (by omega) w u ((zx_zv' eB (Nat.le_refl _)) _ _ h1))
    · exact owe_call2 rfl (wants_if 11 137 rfl (by kernel_rfl) rfl) rfl (opnd_op 14 140 (by kernel_rfl) rfl) (opnd_op 16 142 (by kernel_rfl) rfl) (fresh_is _) rfl (fun args w => by go_simp) (fun w u v h1 h2 => g_zcmpB (by omega) (by omega) w u v ((zn_zv (Nat.le_refl _)) _ _ h1) ((zn_zv dBn) _ _ h2))
    · exact owe_bin rfl (wants_if 11 137 rfl (by kernel_rfl) rfl) rfl (opnd_op 17 143 (by kernel_rfl) rfl) (opnd_const _) rfl (fun ρ w h1 h2 => by exact run_lss_int_t ρ _ _ _ w _ _ (sgn_neg_of (by have := bp.2.1; omega)) h1 h2)
    · exact owe_pick rfl (wants_all rfl) rfl (opnd_op 11 137 (by kernel_rfl) rfl) (fun _ => (opnd_op 18 144 (by kernel_rfl) rfl)) (fun h => nomatch h) rfl
    · exact owe_move rfl (wants_all rfl) (Or.inr rfl) (opnd_op 19 145 (by kernel_rfl) rfl) rfl
  intro B13 a13 W13 S13
  replace S13 : Sta w 146 [(2, (.box 24 (Zx s p n c xs))), (3, (.box 24 (Zx t q m d ys))), (5, (.box 24 ((ZN (fl A B)) w.heap.size))), (6, (.box 24 ((ZN (rm A B)) w.heap.size))), (8, (.box 24 ((ZN (nr A B)) w.heap.size))), (10, (.box 24 ((ZN (2 * (((((nr A B) * B) - A).natAbs : Int)))) w.heap.size))), (11, (.box 24 ((ZN ((gz A B : Int))) w.heap.size))), (12, (.box 24 ((ZN (bzX A B)) w.heap.size))), (13, (.box 24 ((ZN (fl ((gz A B : Int) - (bzX A B * A)) B)) w.heap.size))), (14, (.box 24 ((ZN (fl A ((gz A B : Int)))) w.heap.size))), (16, (.box 24 ((ZN (fl B ((gz A B : Int)))) w.heap.size)))] [(4, (Is (.bool true))), (113, (Is (.bool false))), (91, (Is (.bool false))), (78, (Is (.bool false))), (35, (Is (.bool false))), (9, (Is (.int .i64 0))), (7, (Is (.int .i64 0))), (19, (Is (.bool false)))] B13 a13 W13 := S13
  refine wp_ret ?_
  exact end_one S13 rfl (res_tmp S13 0 4 rfl)

theorem zrests_walk (w : World) (s : Bool) (p : Option Addr) (n c : Nat) (xs : List Nat) (t : Bool) (q : Option Addr) (m d : Nat) (ys : List Nat) (h : Sl w p n c xs) (h' : Sl w q m d ys) (hc : c ≤ 1048576) (hd : d ≤ 1048576) :
    Calls Tryd.prog 3 #[.agg #[.bool s, .slice p n c], .agg #[.bool t, .slice q m d]] w fun e w' => e = .returned (.bool true) ∧ Below w.heap.size w w' := by
  have h1 := h.cap
  have h2 := h'.cap
  have key : Calls Tryd.prog 3 #[.agg #[.bool s, .slice p n c], .agg #[.bool t, .slice q m d]] w (Gives (IS (.bool true)) w) := by
    by_cases hB : sg t (val ys) = 0
    · exact zrests_w0 w s t p q n c m d xs ys h h' (by omega) (by omega) _ _ rfl rfl hB (by rw [hB]; rfl)
    · have hb : (sg t (val ys)).sign ≠ 0 := fun e => hB (Int.sign_eq_zero_iff_zero.1 e)
      by_cases hr : rm (sg s (val xs)) (sg t (val ys)) = 0
      · exact zrests_w1 w s t p q n c m d xs ys h h' (by omega) (by omega) _ _ rfl rfl hB hb hr
      · exact zrests_w2 w s t p q n c m d xs ys h h' (by omega) (by omega) _ _ rfl rfl hB hb hr
  refine key.mono ?_
  rintro e w' ⟨v, rfl, hb, hv⟩
  obtain rfl : v = _ := hv
  exact ⟨rfl, hb⟩

end Go.Proofs.YtblmlhhicpomkaaDoor
