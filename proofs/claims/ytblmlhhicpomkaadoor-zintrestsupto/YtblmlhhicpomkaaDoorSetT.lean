import Derived.Test.YtblmlhhicpomkaaDoorConts
import Derived.Test.YtblmlhhicpomkaaDoorSetF
/-
  The document's quotients: Floor, Near, Exact.
-/
namespace Go.Proofs.YtblmlhhicpomkaaDoor
open Go Go.RowKit Nt
set_option linter.unusedSimpArgs false
set_option linter.unusedVariables false

theorem sg_rest (s t : Bool) (x y : Nat) : sg s x - sg (s != t) (x / y) * sg t y = sg s (x % y) := by
  have e : ((y * (x / y) + x % y : Nat) : Int) = (x : Int) := by rw [Nat.div_add_mod]
  rw [Int.natCast_add, Int.natCast_mul] at e
  obtain ⟨q, hq⟩ : ∃ q, x / y = q := ⟨_, rfl⟩
  obtain ⟨r, hr⟩ : ∃ r, x % y = r := ⟨_, rfl⟩
  rw [hq, hr] at e ⊢
  rw [Int.mul_comm] at e
  cases s <;> cases t <;> simp [sg, Int.neg_mul, Int.mul_neg] <;> omega
theorem sg_sign0 (s : Bool) (r : Nat) : (sg s r).sign = 0 ↔ r = 0 := by
  rw [Int.sign_eq_zero_iff_zero]
  unfold sg
  split <;> omega
theorem sg_sign_eq {s t : Bool} {r y : Nat} (hr : r ≠ 0) (hy : y ≠ 0) : (sg s r).sign = (sg t y).sign ↔ s = t := by
  have h1 : ∀ (b : Bool) (k : Nat), k ≠ 0 → (sg b k).sign = if b then -1 else 1 := by
    intro b k hk
    unfold sg
    cases b
    · simp only [Bool.false_eq_true, if_false]; exact Int.sign_eq_one_of_pos (by omega)
    · simp only [if_true]; exact Int.sign_eq_neg_one_of_neg (by omega)
  rw [h1 s r hr, h1 t y hy]
  cases s <;> cases t <;> simp
theorem rm_le {A B : Int} (hB : B ≠ 0) : (rm A B).natAbs ≤ B.natAbs := by
  unfold rm fl
  by_cases hp : 0 < B
  · rw [if_pos hp]
    have h1 := Int.emod_nonneg A (by omega : B ≠ 0)
    have h2 := Int.emod_lt_of_pos A hp
    have h3 := Int.mul_ediv_add_emod A B
    rw [Int.mul_comm] at h3
    omega
  · rw [if_neg hp]
    have h1 := Int.emod_nonneg (-A) (by omega : -B ≠ 0)
    have h2 := Int.emod_lt_of_pos (-A) (by omega : 0 < -B)
    have h3 := Int.mul_ediv_add_emod (-A) (-B)
    rw [Int.mul_comm, Int.mul_neg] at h3
    omega

end Go.Proofs.YtblmlhhicpomkaaDoor

/-
  zint's quotients: Floor, Near, Exact, whole.
-/
namespace Go.Proofs.YtblmlhhicpomkaaDoor
open Go Go.RowKit Nt
set_option linter.unusedSimpArgs false
set_option linter.unusedVariables false


theorem zv_ne {t : Bool} {ys : List Nat} {B : Int} (e : sg t (val ys) = B) (hB : B ≠ 0) : val ys ≠ 0 := fun h => hB (by rw [← e, h]; cases t <;> rfl)
theorem zv_eq {t : Bool} {ys : List Nat} {B : Int} (e : sg t (val ys) = B) (hB : B = 0) : val ys = 0 := by
  rw [hB] at e
  have := sg_abs t (val ys)
  rw [e] at this
  simpa using this.symm
theorem zv_abs {t : Bool} {ys : List Nat} {B : Int} (e : sg t (val ys) = B) : val ys = B.natAbs := by rw [← e, sg_abs]
theorem g_zfloor {A B : Int} {ka kb : Nat} (hB : B ≠ 0) (hk : ka + 1 ≤ 70368744177663) (hk' : kb ≤ 70368744177663) : ∀ w u v, Zv A ka u w → Zv B kb v w → Calls Tryd.prog 5 #[u, v] w (Gives (THREE (ZN (fl A B)) (ZN (rm A B)) (IS (.int .i64 0))) w) := by
  rintro w u v ⟨s, p, n, c, xs, rfl, h, rfl, hn⟩ ⟨t, q, m, d, ys, rfl, h', rfl, hm⟩
  refine (zfloor_c w s t p q n c m d xs ys h h' (zv_ne rfl hB) (by omega) (by omega)).mono ?_
  rintro e w' ⟨bq, Lq, Dq, rq, cq, br, Lr, Dr, rr, cr, rfl, hb, S1, S2, N1, N2, _, _, f1, f2⟩
  exact ⟨_, rfl, hb, _, _, _, rfl, nm_zn N1.out S1.out f1.out, nm_zn N2.out S2.out f2.out, rfl⟩
theorem rm_bounds {A B : Int} (hB : B ≠ 0) : A = fl A B * B + rm A B ∧ (0 < B → 0 ≤ rm A B ∧ rm A B < B) ∧ (B < 0 → B < rm A B ∧ rm A B ≤ 0) := by
  unfold rm
  refine ⟨by omega, fun hp => ?_, fun hp => ?_⟩
  · unfold fl
    rw [if_pos hp]
    have h1 := Int.emod_nonneg A (by omega : B ≠ 0)
    have h2 := Int.emod_lt_of_pos A hp
    have h3 := Int.mul_ediv_add_emod A B
    rw [Int.mul_comm] at h3
    omega
  · unfold fl
    rw [if_neg (by omega)]
    have h1 := Int.emod_nonneg (-A) (by omega : -B ≠ 0)
    have h2 := Int.emod_lt_of_pos (-A) (by omega : 0 < -B)
    have h3 := Int.mul_ediv_add_emod (-A) (-B)
    rw [Int.mul_comm, Int.mul_neg] at h3
    omega
/-- The nearest whole number. -/
def nr (A B : Int) : Int := fl (2 * A + B) (2 * B)
theorem near_up {A B : Int} (hB : B ≠ 0) (h : B.natAbs ≤ 2 * (rm A B).natAbs) : fl A B + 1 = nr A B := by
  obtain ⟨e, h1, h2⟩ := rm_bounds (A := A) hB
  refine (fl_unique (r := 2 * rm A B - B) (by omega) ?_ (fun hp => ?_) (fun hp => ?_)).1.symm
  · rw [Int.add_mul]
    have : fl A B * (2 * B) = 2 * (fl A B * B) := by rw [← Int.mul_assoc, Int.mul_comm (fl A B) 2, Int.mul_assoc]
    omega
  · have := h1 (by omega); omega
  · have := h2 (by omega); omega
theorem near_down {A B : Int} (hB : B ≠ 0) (h : 2 * (rm A B).natAbs < B.natAbs) : fl A B = nr A B := by
  obtain ⟨e, h1, h2⟩ := rm_bounds (A := A) hB
  refine (fl_unique (r := 2 * rm A B + B) (by omega) ?_ (fun hp => ?_) (fun hp => ?_)).1.symm
  · have : fl A B * (2 * B) = 2 * (fl A B * B) := by rw [← Int.mul_assoc, Int.mul_comm (fl A B) 2, Int.mul_assoc]
    omega
  · have := h1 (by omega); omega
  · have := h2 (by omega); omega
theorem cmpN_ge0 {x y : Nat} (h : y ≤ x) : 0 ≤ cmpN x y := by unfold cmpN; split; omega; split <;> omega
theorem cmpN_lt0 {x y : Nat} (h : x < y) : cmpN x y < 0 := by unfold cmpN; rw [if_pos h]; omega

set_option maxHeartbeats 400000 in
theorem zfloor_w0 (w : World) (s t : Bool) (p q : Option Addr) (n c m d : Nat) (xs ys : List Nat) (h : Sl w p n c xs) (h' : Sl w q m d ys) (hy : val ys = 0) :
    Calls Tryd.prog 5 #[.agg #[.bool s, .slice p n c], .agg #[.bool t, .slice q m d]] w (Gives (THREE (IS (.agg #[.bool false, .slice none 0 0])) (IS (.agg #[.bool false, .slice none 0 0])) (IS (.int .i64 11))) w) := by
  refine calls_sta (sl := [(0, (Zx s p n c xs)), (1, (Zx t q m d ys))]) Tryd.func5 rfl Tryd.ntmps5 (by simp) (args_cons rfl (zx_has h) (args_cons rfl (zx_has h') args_nil)) ?_
  intro a0 S0
  refine wp_stmt_seq [.new (.box 24 (Zx s p n c xs)),
      .new (.box 24 (Zx t q m d ys)),
      .new (.box 24 (Is (.agg #[.bool false, .slice none 0 0]))),
      .new (.box 24 (Is (.agg #[.bool false, .slice none 0 0]))),
      .val (Is (.int .i64 0))] [.inl 0, .inl 1, .inl 2, .inl 3] [.inl 4] follows S0 rfl (by kernel_rfl) ?_ ?_
  · refine ⟨⟨⟨⟨⟨trivial, ?_⟩, ?_⟩, ?_⟩, ?_⟩, ?_⟩
    · exact owe_box rfl (wants_all rfl) rfl (opnd_slot 0 0 rfl (by kernel_rfl)) rfl (fun ρ w h => box_int shp_zx ρ _ _ w h)
    · exact owe_box rfl (wants_all rfl) rfl (opnd_slot 1 1 rfl (by kernel_rfl)) rfl (fun ρ w h => box_int shp_zx ρ _ _ w h)
    · exact owe_new rfl (wants_all rfl) rfl rfl (fun ρ w => alloc_int ρ _ w)
    · exact owe_new rfl (wants_all rfl) rfl rfl (fun ρ w => alloc_int ρ _ w)
    · exact owe_move rfl (wants_all rfl) (Or.inr rfl) (opnd_const _) rfl
  intro B1 a1 W1 S1
  replace S1 : Sta w 55 [(2, (.box 24 (Zx s p n c xs))), (3, (.box 24 (Zx t q m d ys))), (4, (.box 24 (Is (.agg #[.bool false, .slice none 0 0])))), (5, (.box 24 (Is (.agg #[.bool false, .slice none 0 0]))))] [(6, (Is (.int .i64 0)))] B1 a1 W1 := S1
  refine wp_stmt_seq [.val (Part a1 2 1),
      .val (Nx p n c xs),
      .val (Part a1 3 1),
      .val (Nx q m d ys),
      .val ((THREE (IS (.slice none 0 0)) (IS (.slice none 0 0)) (IS (.int .i64 11))) w.heap.size),
      .val ((THREE (IS (.slice none 0 0)) (IS (.slice none 0 0)) (IS (.int .i64 11))) w.heap.size),
      .val (Is (.slice none 0 0)),
      .val (Is (.slice none 0 0)),
      .val (Is (.int .i64 11)),
      .val (Is (.slice none 0 0)),
      .val (Is (.slice none 0 0)),
      .val (Is (.int .i64 11))] [.inr 0, .inr 1, .inr 2, .inr 3] [.inl 9, .inl 10, .inl 11, .inr 0] follows S1 rfl (by kernel_rfl) ?_ ?_
  · refine ⟨⟨⟨⟨⟨⟨⟨⟨⟨⟨⟨⟨trivial, ?_⟩, ?_⟩, ?_⟩, ?_⟩, ?_⟩, ?_⟩, ?_⟩, ?_⟩, ?_⟩, ?_⟩, ?_⟩, ?_⟩
    · exact owe_part rfl (wants_all rfl) rfl (k := 0) rfl (by kernel_rfl) rfl (fun ρ w b h => part_int1 ρ _ _ w b 0 h)
    · exact owe_pload rfl (wants_all rfl) rfl (opnd_op 0 11 (by kernel_rfl) rfl) (k := 0) rfl (by kernel_rfl) rfl (fun ρ w b u h1 h2 h3 => pload_mag zx_mag ρ _ _ w b u h1 h2 h3)
    · exact owe_part rfl (wants_all rfl) rfl (k := 1) rfl (by kernel_rfl) rfl (fun ρ w b h => part_int1 ρ _ _ w b 0 h)
    · exact owe_pload rfl (wants_all rfl) rfl (opnd_op 2 13 (by kernel_rfl) rfl) (k := 1) rfl (by kernel_rfl) rfl (fun ρ w b u h1 h2 h3 => pload_mag zx_mag ρ _ _ w b u h1 h2 h3)
    · exact owe_call2 rfl (wants_all rfl) rfl (opnd_op 1 12 (by kernel_rfl) rfl) (opnd_op 3 14 (by kernel_rfl) rfl) (fresh_three (fresh_is _) (fresh_is _) (fresh_is _)) rfl (fun args w => by go_simp) (fun w u v h1 h2 => g_div0 hy w u v ((nx_nv (Nat.le_refl _)) _ _ h1) ((nx_nv (Nat.le_refl _)) _ _ h2))
    · exact owe_move rfl (wants_all rfl) (Or.inl rfl) (opnd_op 4 15 (by kernel_rfl) rfl) rfl
    · exact owe_ext3 rfl (wants_all rfl) rfl (opnd_op 5 10 (by kernel_rfl) rfl) (Or.inl ⟨rfl, rfl⟩) rfl
    · exact owe_ext3 rfl (wants_all rfl) rfl (opnd_op 5 10 (by kernel_rfl) rfl) (Or.inr (Or.inl ⟨rfl, rfl⟩)) rfl
    · exact owe_ext3 rfl (wants_all rfl) rfl (opnd_op 5 10 (by kernel_rfl) rfl) (Or.inr (Or.inr ⟨rfl, rfl⟩)) rfl
    · exact owe_move rfl (wants_all rfl) (Or.inr rfl) (opnd_op 6 16 (by kernel_rfl) rfl) rfl
    · exact owe_move rfl (wants_all rfl) (Or.inr rfl) (opnd_op 7 17 (by kernel_rfl) rfl) rfl
    · exact owe_move rfl (wants_all rfl) (Or.inr rfl) (opnd_op 8 18 (by kernel_rfl) rfl) rfl
  intro B2 a2 W2 S2
  replace S2 : Sta w 55 [(2, (.box 24 (Zx s p n c xs))), (3, (.box 24 (Zx t q m d ys))), (4, (.box 24 (Is (.agg #[.bool false, .slice none 0 0])))), (5, (.box 24 (Is (.agg #[.bool false, .slice none 0 0]))))] [(7, (Is (.slice none 0 0))), (8, (Is (.slice none 0 0))), (9, (Is (.int .i64 11))), (6, (Is (.int .i64 0)))] B2 a2 W2 := S2
  refine wp_seq ?_
  refine wp_stmt_seq [.val (Is (.int .i64 11)),
      .val (Is (.bool true))] [.inr 0, .inr 1, .inr 2, .inr 3] [.inl 1, .inr 0, .inr 1, .inr 2, .inr 3] follows S2 rfl (by kernel_rfl) ?_ ?_
  · refine ⟨⟨trivial, ?_⟩, ?_⟩
    · exact owe_move rfl (wants_all rfl) (Or.inl rfl) (opnd_slot 2 9 rfl (by kernel_rfl)) rfl
    · exact owe_bin rfl (wants_all rfl) rfl (opnd_op 0 19 (by kernel_rfl) rfl) (opnd_const _) rfl (fun ρ w h1 h2 => by exact run_neq_errno_t ρ _ _ _ w _ _ (by decide) h1 h2)
  intro B3 a3 W3 S3
  replace S3 : Sta w 55 [(2, (.box 24 (Zx s p n c xs))), (3, (.box 24 (Zx t q m d ys))), (4, (.box 24 (Is (.agg #[.bool false, .slice none 0 0])))), (5, (.box 24 (Is (.agg #[.bool false, .slice none 0 0]))))] [(20, (Is (.bool true))), (7, (Is (.slice none 0 0))), (8, (Is (.slice none 0 0))), (9, (Is (.int .i64 11))), (6, (Is (.int .i64 0)))] B3 a3 W3 := S3
  refine wp_cond_true (S3.bool 0 20 rfl) ?_
  refine wp_stmt_seq [.val (Is (.agg #[.bool false, .slice none 0 0])),
      .val (Is (.agg #[.bool false, .slice none 0 0])),
      .val (Is (.int .i64 11)),
      .put (.inl 4) (.box 24 (Is (.agg #[.bool false, .slice none 0 0]))),
      .put (.inl 5) (.box 24 (Is (.agg #[.bool false, .slice none 0 0]))),
      .val (Is (.int .i64 11))] [.inr 0, .inr 1, .inr 2, .inr 3] [.inl 5, .inr 0, .inr 1, .inr 2, .inr 3] follows S3 rfl (by kernel_rfl) ?_ ?_
  · refine ⟨⟨⟨⟨⟨⟨trivial, ?_⟩, ?_⟩, ?_⟩, ?_⟩, ?_⟩, ?_⟩
    · exact owe_build_int rfl (wants_all rfl) rfl rfl
    · exact owe_build_int rfl (wants_all rfl) rfl rfl
    · exact owe_move rfl (wants_all rfl) (Or.inl rfl) (opnd_slot 3 9 rfl (by kernel_rfl)) rfl
    · exact owe_set rfl (wants_all rfl) rfl (k := 2) rfl (by kernel_rfl) (opnd_op 0 21 (by kernel_rfl) rfl) (stores_of strct_int shp_z0 shp_z0) rfl
    · exact owe_set rfl (wants_all rfl) rfl (k := 3) rfl (by kernel_rfl) (opnd_op 1 22 (by kernel_rfl) rfl) (stores_of strct_int shp_z0 shp_z0) rfl
    · exact owe_move rfl (wants_all rfl) (Or.inr rfl) (opnd_op 2 23 (by kernel_rfl) rfl) rfl
  intro B4 a4 W4 S4
  replace S4 : Sta w 55 [(2, (.box 24 (Zx s p n c xs))), (3, (.box 24 (Zx t q m d ys))), (4, (.box 24 (Is (.agg #[.bool false, .slice none 0 0])))), (5, (.box 24 (Is (.agg #[.bool false, .slice none 0 0]))))] [(6, (Is (.int .i64 11))), (20, (Is (.bool true))), (7, (Is (.slice none 0 0))), (8, (Is (.slice none 0 0))), (9, (Is (.int .i64 11)))] B4 a4 W4 := S4
  refine wp_ret ?_
  refine thenR ?_
  exact end_three S4 rfl (res_cell S4 2 4 rfl strct_int shp_z0) (res_cell S4 3 5 rfl strct_int shp_z0) (res_tmp S4 0 6 rfl)

theorem g_zfloor0 {A B : Int} {ka kb : Nat} (hB : B = 0)  : ∀ w u v, Zv A ka u w → Zv B kb v w → Calls Tryd.prog 5 #[u, v] w (Gives (THREE (IS (.agg #[.bool false, .slice none 0 0])) (IS (.agg #[.bool false, .slice none 0 0])) (IS (.int .i64 11))) w) := by
  rintro w u v ⟨s, p, n, c, xs, rfl, h, rfl, hn⟩ ⟨t, q, m, d, ys, rfl, h', rfl, hm⟩
  exact zfloor_w0 w s t p q n c m d xs ys h h' (zv_eq rfl hB)

set_option maxHeartbeats 400000 in
theorem znear_w0 (w : World) (s t : Bool) (p q : Option Addr) (n c m d : Nat) (xs ys : List Nat) (h : Sl w p n c xs) (h' : Sl w q m d ys) (A B : Int) (eA : sg s (val xs) = A) (eB : sg t (val ys) = B) (hB : B = 0) :
    Calls Tryd.prog 6 #[.agg #[.bool s, .slice p n c], .agg #[.bool t, .slice q m d]] w (Gives (TWO (IS (.agg #[.bool false, .slice none 0 0])) (IS (.int .i64 11))) w) := by
  refine calls_sta (sl := [(0, (Zx s p n c xs)), (1, (Zx t q m d ys))]) Tryd.func6 rfl Tryd.ntmps6 (by simp) (args_cons rfl (zx_has h) (args_cons rfl (zx_has h') args_nil)) ?_
  intro a0 S0
  refine wp_stmt_seq [.new (.box 24 (Zx s p n c xs)),
      .new (.box 24 (Zx t q m d ys)),
      .new (.box 24 (Is (.agg #[.bool false, .slice none 0 0]))),
      .val (Is (.int .i64 0))] [.inl 0, .inl 1, .inl 2] [.inl 3] follows S0 rfl (by kernel_rfl) ?_ ?_
  · refine ⟨⟨⟨⟨trivial, ?_⟩, ?_⟩, ?_⟩, ?_⟩
    · exact owe_box rfl (wants_all rfl) rfl (opnd_slot 0 0 rfl (by kernel_rfl)) rfl (fun ρ w h => box_int shp_zx ρ _ _ w h)
    · exact owe_box rfl (wants_all rfl) rfl (opnd_slot 1 1 rfl (by kernel_rfl)) rfl (fun ρ w h => box_int shp_zx ρ _ _ w h)
    · exact owe_new rfl (wants_all rfl) rfl rfl (fun ρ w => alloc_int ρ _ w)
    · exact owe_move rfl (wants_all rfl) (Or.inr rfl) (opnd_const _) rfl
  intro B1 a1 W1 S1
  replace S1 : Sta w 33 [(2, (.box 24 (Zx s p n c xs))), (3, (.box 24 (Zx t q m d ys))), (4, (.box 24 (Is (.agg #[.bool false, .slice none 0 0]))))] [(5, (Is (.int .i64 0)))] B1 a1 W1 := S1
  refine wp_stmt_seq [.val (Zx s p n c xs),
      .val (Zx t q m d ys),
      .val ((THREE (IS (.agg #[.bool false, .slice none 0 0])) (IS (.agg #[.bool false, .slice none 0 0])) (IS (.int .i64 11))) w.heap.size),
      .val ((THREE (IS (.agg #[.bool false, .slice none 0 0])) (IS (.agg #[.bool false, .slice none 0 0])) (IS (.int .i64 11))) w.heap.size),
      .val (Is (.agg #[.bool false, .slice none 0 0])),
      .val (Is (.agg #[.bool false, .slice none 0 0])),
      .val (Is (.int .i64 11)),
      .new (.box 24 (Is (.agg #[.bool false, .slice none 0 0]))),
      .new (.box 24 (Is (.agg #[.bool false, .slice none 0 0]))),
      .put (.inr 7) (.box 24 (Is (.agg #[.bool false, .slice none 0 0]))),
      .put (.inr 8) (.box 24 (Is (.agg #[.bool false, .slice none 0 0]))),
      .val (Is (.int .i64 11))] [.inr 0, .inr 1, .inr 2, .inl 7, .inl 8] [.inl 11, .inr 0] follows S1 rfl (by kernel_rfl) ?_ ?_
  · refine ⟨⟨⟨⟨⟨⟨⟨⟨⟨⟨⟨⟨trivial, ?_⟩, ?_⟩, ?_⟩, ?_⟩, ?_⟩, ?_⟩, ?_⟩, ?_⟩, ?_⟩, ?_⟩, ?_⟩, ?_⟩
    · exact owe_load rfl (wants_all rfl) rfl (k := 0) rfl (by kernel_rfl) (loads_of strct_int shp_zx) rfl
    · exact owe_load rfl (wants_all rfl) rfl (k := 1) rfl (by kernel_rfl) (loads_of strct_int shp_zx) rfl
    · exact owe_call2 rfl (wants_all rfl) rfl (opnd_op 0 10 (by kernel_rfl) rfl) (opnd_op 1 11 (by kernel_rfl) rfl) (fresh_three (fresh_is _) (fresh_is _) (fresh_is _)) rfl (fun args w => by go_simp) (fun w u v h1 h2 => g_zfloor0 hB w u v ((zx_zv' eA (Nat.le_refl _)) _ _ h1) ((zx_zv' eB (Nat.le_refl _)) _ _ h2))
    · exact owe_move rfl (wants_all rfl) (Or.inl rfl) (opnd_op 2 12 (by kernel_rfl) rfl) rfl
    · exact owe_ext3 rfl (wants_all rfl) rfl (opnd_op 3 9 (by kernel_rfl) rfl) (Or.inl ⟨rfl, rfl⟩) rfl
    · exact owe_ext3 rfl (wants_all rfl) rfl (opnd_op 3 9 (by kernel_rfl) rfl) (Or.inr (Or.inl ⟨rfl, rfl⟩)) rfl
    · exact owe_ext3 rfl (wants_all rfl) rfl (opnd_op 3 9 (by kernel_rfl) rfl) (Or.inr (Or.inr ⟨rfl, rfl⟩)) rfl
    · exact owe_new rfl (wants_all rfl) rfl rfl (fun ρ w => alloc_int ρ _ w)
    · exact owe_new rfl (wants_all rfl) rfl rfl (fun ρ w => alloc_int ρ _ w)
    · exact owe_put 7 rfl (wants_all rfl) rfl (by kernel_rfl) rfl (opnd_op 4 13 (by kernel_rfl) rfl) (stores_of strct_int shp_z0 shp_z0) rfl
    · exact owe_put 8 rfl (wants_all rfl) rfl (by kernel_rfl) rfl (opnd_op 5 14 (by kernel_rfl) rfl) (stores_of strct_int shp_z0 shp_z0) rfl
    · exact owe_move rfl (wants_all rfl) (Or.inr rfl) (opnd_op 6 15 (by kernel_rfl) rfl) rfl
  intro B2 a2 W2 S2
  replace S2 : Sta w 33 [(2, (.box 24 (Zx s p n c xs))), (3, (.box 24 (Zx t q m d ys))), (4, (.box 24 (Is (.agg #[.bool false, .slice none 0 0])))), (6, (.box 24 (Is (.agg #[.bool false, .slice none 0 0])))), (7, (.box 24 (Is (.agg #[.bool false, .slice none 0 0]))))] [(8, (Is (.int .i64 11))), (5, (Is (.int .i64 0)))] B2 a2 W2 := S2
  refine wp_seq ?_
  refine wp_stmt_seq [.val (Is (.int .i64 11)),
      .val (Is (.bool true))] [.inr 0, .inr 1, .inr 2, .inr 3, .inr 4] [.inl 1, .inr 0, .inr 1] follows S2 rfl (by kernel_rfl) ?_ ?_
  · refine ⟨⟨trivial, ?_⟩, ?_⟩
    · exact owe_move rfl (wants_all rfl) (Or.inl rfl) (opnd_slot 0 8 rfl (by kernel_rfl)) rfl
    · exact owe_bin rfl (wants_all rfl) rfl (opnd_op 0 16 (by kernel_rfl) rfl) (opnd_const _) rfl (fun ρ w h1 h2 => by exact run_neq_errno_t ρ _ _ _ w _ _ (by decide) h1 h2)
  intro B3 a3 W3 S3
  replace S3 : Sta w 33 [(2, (.box 24 (Zx s p n c xs))), (3, (.box 24 (Zx t q m d ys))), (4, (.box 24 (Is (.agg #[.bool false, .slice none 0 0])))), (6, (.box 24 (Is (.agg #[.bool false, .slice none 0 0])))), (7, (.box 24 (Is (.agg #[.bool false, .slice none 0 0]))))] [(17, (Is (.bool true))), (8, (Is (.int .i64 11))), (5, (Is (.int .i64 0)))] B3 a3 W3 := S3
  refine wp_cond_true (S3.bool 0 17 rfl) ?_
  refine wp_stmt_seq [.val (Is (.agg #[.bool false, .slice none 0 0])),
      .val (Is (.int .i64 11)),
      .put (.inl 4) (.box 24 (Is (.agg #[.bool false, .slice none 0 0]))),
      .val (Is (.int .i64 11))] [.inr 0, .inr 1, .inr 2, .inr 3, .inr 4] [.inl 3, .inr 0, .inr 1] follows S3 rfl (by kernel_rfl) ?_ ?_
  · refine ⟨⟨⟨⟨trivial, ?_⟩, ?_⟩, ?_⟩, ?_⟩
    · exact owe_build_int rfl (wants_all rfl) rfl rfl
    · exact owe_move rfl (wants_all rfl) (Or.inl rfl) (opnd_slot 1 8 rfl (by kernel_rfl)) rfl
    · exact owe_set rfl (wants_all rfl) rfl (k := 2) rfl (by kernel_rfl) (opnd_op 0 18 (by kernel_rfl) rfl) (stores_of strct_int shp_z0 shp_z0) rfl
    · exact owe_move rfl (wants_all rfl) (Or.inr rfl) (opnd_op 1 19 (by kernel_rfl) rfl) rfl
  intro B4 a4 W4 S4
  replace S4 : Sta w 33 [(2, (.box 24 (Zx s p n c xs))), (3, (.box 24 (Zx t q m d ys))), (4, (.box 24 (Is (.agg #[.bool false, .slice none 0 0])))), (6, (.box 24 (Is (.agg #[.bool false, .slice none 0 0])))), (7, (.box 24 (Is (.agg #[.bool false, .slice none 0 0]))))] [(5, (Is (.int .i64 11))), (17, (Is (.bool true))), (8, (Is (.int .i64 11)))] B4 a4 W4 := S4
  refine wp_ret ?_
  refine thenR ?_
  exact end_two S4 rfl (res_cell S4 2 4 rfl strct_int shp_z0) (res_tmp S4 0 5 rfl)


theorem fl_abs {A B : Int} (hB : B ≠ 0) : (fl A B).natAbs ≤ A.natAbs + 1 := by
  obtain ⟨e, h1, h2⟩ := rm_bounds (A := A) hB
  have key : (fl A B * B).natAbs ≤ A.natAbs + (rm A B).natAbs := by omega
  have hr : (rm A B).natAbs < B.natAbs := by
    rcases Int.lt_or_gt_of_ne hB with hp | hp
    · have := h2 hp; omega
    · have := h1 hp; omega
  rw [Int.natAbs_mul] at key
  obtain ⟨f, hf⟩ : ∃ f, (fl A B).natAbs = f := ⟨_, rfl⟩
  obtain ⟨b, hb⟩ : ∃ b, B.natAbs = b := ⟨_, rfl⟩
  rw [hf, hb] at key
  rw [hb] at hr
  rw [hf]
  apply Classical.byContradiction
  intro hc
  obtain ⟨k, rfl⟩ : ∃ k, f = A.natAbs + 2 + k := ⟨f - (A.natAbs + 2), by omega⟩
  have h3 : (A.natAbs + 2 + k) * b = A.natAbs * b + 2 * b + k * b := by rw [Nat.add_mul, Nat.add_mul]
  have h4 : A.natAbs * 1 ≤ A.natAbs * b := Nat.mul_le_mul_left _ (by omega)
  omega
theorem fl_len {A B : Int} {n : Nat} (hB : B ≠ 0) (h : (digs A.natAbs).length ≤ n) : (digs (fl A B).natAbs).length ≤ n + 1 := by
  refine Nat.le_trans (digs_length_mono (fl_abs hB)) ?_
  by_cases hn : n = 0
  · subst hn
    have : A.natAbs = 0 := (digs_length_zero _).1 (by omega)
    rw [this]
    exact digs_length_le (by omega)
  · refine digs_add_len h (Nat.le_trans (digs_length_le (k := 1) (by omega)) (by omega))

set_option maxHeartbeats 400000 in
theorem znear_w1 (w : World) (s t : Bool) (p q : Option Addr) (n c m d : Nat) (xs ys : List Nat) (h : Sl w p n c xs) (h' : Sl w q m d ys) (A B : Int) (eA : sg s (val xs) = A) (eB : sg t (val ys) = B) (hB : B ≠ 0) (hc : 0 ≤ cmpN ((rm A B).natAbs + (rm A B).natAbs) (val ys)) (hs : n + m + 9 ≤ 35184372088831) :
    Calls Tryd.prog 6 #[.agg #[.bool s, .slice p n c], .agg #[.bool t, .slice q m d]] w (Gives (TWO (ZN (fl A B + 1)) (IS (.int .i64 0))) w) := by
  have dA : (digs A.natAbs).length ≤ n := by rw [← eA]; exact sg_dl h
  have dB : (digs B.natAbs).length ≤ m := by rw [← eB]; exact sg_dl h'
  have dR : (digs (rm A B).natAbs).length ≤ m := Nat.le_trans (digs_length_mono (rm_le hB)) dB
  have dF : (digs (fl A B).natAbs).length ≤ n + 1 := fl_len hB dA
  have d1 : (digs (1 : Int).natAbs).length ≤ 1 := dl_small (by decide)
  refine calls_sta (sl := [(0, (Zx s p n c xs)), (1, (Zx t q m d ys))]) Tryd.func6 rfl Tryd.ntmps6 (by simp) (args_cons rfl (zx_has h) (args_cons rfl (zx_has h') args_nil)) ?_
  intro a0 S0
  refine wp_stmt_seq [.new (.box 24 (Zx s p n c xs)),
      .new (.box 24 (Zx t q m d ys)),
      .new (.box 24 (Is (.agg #[.bool false, .slice none 0 0]))),
      .val (Is (.int .i64 0))] [.inl 0, .inl 1, .inl 2] [.inl 3] follows S0 rfl (by kernel_rfl) ?_ ?_
  · refine ⟨⟨⟨⟨trivial, ?_⟩, ?_⟩, ?_⟩, ?_⟩
    · exact owe_box rfl (wants_all rfl) rfl (opnd_slot 0 0 rfl (by kernel_rfl)) rfl (fun ρ w h => box_int shp_zx ρ _ _ w h)
    · exact owe_box rfl (wants_all rfl) rfl (opnd_slot 1 1 rfl (by kernel_rfl)) rfl (fun ρ w h => box_int shp_zx ρ _ _ w h)
    · exact owe_new rfl (wants_all rfl) rfl rfl (fun ρ w => alloc_int ρ _ w)
    · exact owe_move rfl (wants_all rfl) (Or.inr rfl) (opnd_const _) rfl
  intro B1 a1 W1 S1
  replace S1 : Sta w 33 [(2, (.box 24 (Zx s p n c xs))), (3, (.box 24 (Zx t q m d ys))), (4, (.box 24 (Is (.agg #[.bool false, .slice none 0 0]))))] [(5, (Is (.int .i64 0)))] B1 a1 W1 := S1
  refine wp_stmt_seq [.val (Zx s p n c xs),
      .val (Zx t q m d ys),
      .val ((THREE (ZN (fl A B)) (ZN (rm A B)) (IS (.int .i64 0))) w.heap.size),
      .val ((THREE (ZN (fl A B)) (ZN (rm A B)) (IS (.int .i64 0))) w.heap.size),
      .val ((ZN (fl A B)) w.heap.size),
      .val ((ZN (rm A B)) w.heap.size),
      .val (Is (.int .i64 0)),
      .new (.box 24 (Is (.agg #[.bool false, .slice none 0 0]))),
      .new (.box 24 (Is (.agg #[.bool false, .slice none 0 0]))),
      .put (.inr 7) (.box 24 ((ZN (fl A B)) w.heap.size)),
      .put (.inr 8) (.box 24 ((ZN (rm A B)) w.heap.size)),
      .val (Is (.int .i64 0))] [.inr 0, .inr 1, .inr 2, .inl 7, .inl 8] [.inl 11, .inr 0] follows S1 rfl (by kernel_rfl) ?_ ?_
  · refine ⟨⟨⟨⟨⟨⟨⟨⟨⟨⟨⟨⟨trivial, ?_⟩, ?_⟩, ?_⟩, ?_⟩, ?_⟩, ?_⟩, ?_⟩, ?_⟩, ?_⟩, ?_⟩, ?_⟩, ?_⟩
    · exact owe_load rfl (wants_all rfl) rfl (k := 0) rfl (by kernel_rfl) (loads_of strct_int shp_zx) rfl
    · exact owe_load rfl (wants_all rfl) rfl (k := 1) rfl (by kernel_rfl) (loads_of strct_int shp_zx) rfl
    · exact owe_call2 rfl (wants_all rfl) rfl (opnd_op 0 10 (by kernel_rfl) rfl) (opnd_op 1 11 (by kernel_rfl) rfl) (fresh_three (fresh_zn _) (fresh_zn _) (fresh_is _)) rfl (fun args w => by go_simp) (fun w u v h1 h2 => g_zfloor hB (by omega) (by omega) w u v ((zx_zv' eA (Nat.le_refl _)) _ _ h1) ((zx_zv' eB (Nat.le_refl _)) _ _ h2))
    · exact owe_move rfl (wants_all rfl) (Or.inl rfl) (opnd_op 2 12 (by kernel_rfl) rfl) rfl
    · exact owe_ext3 rfl (wants_all rfl) rfl (opnd_op 3 9 (by kernel_rfl) rfl) (Or.inl ⟨rfl, rfl⟩) rfl
    · exact owe_ext3 rfl (wants_all rfl) rfl (opnd_op 3 9 (by kernel_rfl) rfl) (Or.inr (Or.inl ⟨rfl, rfl⟩)) rfl
    · exact owe_ext3 rfl (wants_all rfl) rfl (opnd_op 3 9 (by kernel_rfl) rfl) (Or.inr (Or.inr ⟨rfl, rfl⟩)) rfl
    · exact owe_new rfl (wants_all rfl) rfl rfl (fun ρ w => alloc_int ρ _ w)
    · exact owe_new rfl (wants_all rfl) rfl rfl (fun ρ w => alloc_int ρ _ w)
    · exact owe_put 7 rfl (wants_all rfl) rfl (by kernel_rfl) rfl (opnd_op 4 13 (by kernel_rfl) rfl) (stores_of strct_int shp_z0 shp_zn) rfl
    · exact owe_put 8 rfl (wants_all rfl) rfl (by kernel_rfl) rfl (opnd_op 5 14 (by kernel_rfl) rfl) (stores_of strct_int shp_z0 shp_zn) rfl
    · exact owe_move rfl (wants_all rfl) (Or.inr rfl) (opnd_op 6 15 (by kernel_rfl) rfl) rfl
  intro B2 a2 W2 S2
  replace S2 : Sta w 33 [(2, (.box 24 (Zx s p n c xs))), (3, (.box 24 (Zx t q m d ys))), (4, (.box 24 (Is (.agg #[.bool false, .slice none 0 0])))), (6, (.box 24 ((ZN (fl A B)) w.heap.size))), (7, (.box 24 ((ZN (rm A B)) w.heap.size)))] [(8, (Is (.int .i64 0))), (5, (Is (.int .i64 0)))] B2 a2 W2 := S2
  refine wp_seq ?_
  refine wp_stmt_seq [.val (Is (.int .i64 0)),
      .val (Is (.bool false))] [.inr 0, .inr 1, .inr 2, .inr 3, .inr 4] [.inl 1, .inr 0, .inr 1] follows S2 rfl (by kernel_rfl) ?_ ?_
  · refine ⟨⟨trivial, ?_⟩, ?_⟩
    · exact owe_move rfl (wants_all rfl) (Or.inl rfl) (opnd_slot 0 8 rfl (by kernel_rfl)) rfl
    · exact owe_bin rfl (wants_all rfl) rfl (opnd_op 0 16 (by kernel_rfl) rfl) (opnd_const _) rfl (fun ρ w h1 h2 => by exact run_neq_errno_f ρ _ _ _ w _ _ rfl h1 h2)
  intro B3 a3 W3 S3
  replace S3 : Sta w 33 [(2, (.box 24 (Zx s p n c xs))), (3, (.box 24 (Zx t q m d ys))), (4, (.box 24 (Is (.agg #[.bool false, .slice none 0 0])))), (6, (.box 24 ((ZN (fl A B)) w.heap.size))), (7, (.box 24 ((ZN (rm A B)) w.heap.size)))] [(17, (Is (.bool false))), (8, (Is (.int .i64 0))), (5, (Is (.int .i64 0)))] B3 a3 W3 := S3
  refine wp_cond_false (S3.bool 0 17 rfl) ?_
  refine wp_skip ?_
  refine thenN ?_
  refine wp_seq ?_
  refine wp_stmt_seq [.val (Part a3 7 1),
      .val ((NN ((rm A B).natAbs)) w.heap.size),
      .val (Part a3 7 1),
      .val ((NN ((rm A B).natAbs)) w.heap.size),
      .val ((NN (((rm A B).natAbs) + ((rm A B).natAbs))) w.heap.size),
      .val (Part a3 3 1),
      .val (Nx q m d ys),
      .val (Is (.int .i64 (cmpN (((rm A B).natAbs) + ((rm A B).natAbs)) (val ys)))),
      .val (Is (.bool true))] [.inr 0, .inr 1, .inr 2, .inr 3, .inr 4] [.inl 8, .inr 0, .inr 1, .inr 2] follows S3 rfl (by kernel_rfl) ?_ ?_
  · refine ⟨⟨⟨⟨⟨⟨⟨⟨⟨trivial, ?_⟩, ?_⟩, ?_⟩, ?_⟩, ?_⟩, ?_⟩, ?_⟩, ?_⟩, ?_⟩
    · exact owe_part rfl (wants_all rfl) rfl (k := 4) rfl (by kernel_rfl) rfl (fun ρ w b h => part_int1 ρ _ _ w b 0 h)
    · exact owe_pload rfl (wants_all rfl) rfl (opnd_op 0 20 (by kernel_rfl) rfl) (k := 4) rfl (by kernel_rfl) rfl (fun ρ w b u h1 h2 h3 => pload_mag zn_mag ρ _ _ w b u h1 h2 h3)
    · exact owe_part rfl (wants_all rfl) rfl (k := 4) rfl (by kernel_rfl) rfl (fun ρ w b h => part_int1 ρ _ _ w b 0 h)
    · exact owe_pload rfl (wants_all rfl) rfl (opnd_op 2 22 (by kernel_rfl) rfl) (k := 4) rfl (by kernel_rfl) rfl (fun ρ w b u h1 h2 h3 => pload_mag zn_mag ρ _ _ w b u h1 h2 h3)
    · exact owe_call2 rfl (wants_all rfl) rfl (opnd_op 1 21 (by kernel_rfl) rfl) (opnd_op 3 23 (by kernel_rfl) rfl) (fresh_nn _) rfl (fun args w => by go_simp) (fun w u v h1 h2 => g_add (by omega) (by omega) w u v ((nn_nv dR) _ _ h1) ((nn_nv dR) _ _ h2))
    · exact owe_part rfl (wants_all rfl) rfl (k := 1) rfl (by kernel_rfl) rfl (fun ρ w b h => part_int1 ρ _ _ w b 0 h)
    · exact owe_pload rfl (wants_all rfl) rfl (opnd_op 5 25 (by kernel_rfl) rfl) (k := 1) rfl (by kernel_rfl) rfl (fun ρ w b u h1 h2 h3 => pload_mag zx_mag ρ _ _ w b u h1 h2 h3)
    · exact owe_call2 rfl (wants_all rfl) rfl (opnd_op 4 24 (by kernel_rfl) rfl) (opnd_op 6 26 (by kernel_rfl) rfl) (fresh_is _) rfl (fun args w => by go_simp) (fun w u v h1 h2 => g_cmp  w u v ((nn_nv (Nat.le_refl _)) _ _ h1) ((nx_nv (Nat.le_refl _)) _ _ h2))
    · exact owe_bin rfl (wants_all rfl) rfl (opnd_op 7 27 (by kernel_rfl) rfl) (opnd_const _) rfl (fun ρ w h1 h2 => by exact run_geq_int_t ρ _ _ _ w _ _ hc h1 h2)
  intro B4 a4 W4 S4
  replace S4 : Sta w 33 [(2, (.box 24 (Zx s p n c xs))), (3, (.box 24 (Zx t q m d ys))), (4, (.box 24 (Is (.agg #[.bool false, .slice none 0 0])))), (6, (.box 24 ((ZN (fl A B)) w.heap.size))), (7, (.box 24 ((ZN (rm A B)) w.heap.size)))] [(28, (Is (.bool true))), (17, (Is (.bool false))), (8, (Is (.int .i64 0))), (5, (Is (.int .i64 0)))] B4 a4 W4 := S4
  refine wp_cond_true (S4.bool 0 28 rfl) ?_
  refine wp_stmt [.val ((ZN (fl A B)) w.heap.size),
      .val ((ZN (1)) w.heap.size),
      .val ((ZN ((fl A B) + 1)) w.heap.size),
      .put (.inl 6) (.box 24 ((ZN ((fl A B) + 1)) w.heap.size))] [.inr 0, .inr 1, .inr 2, .inr 3, .inr 4] [.inr 0, .inr 1, .inr 2, .inr 3] follows S4 rfl (by kernel_rfl) ?_ ?_
  · refine ⟨⟨⟨⟨trivial, ?_⟩, ?_⟩, ?_⟩, ?_⟩
    · exact owe_load rfl (wants_all rfl) rfl (k := 3) rfl (by kernel_rfl) (loads_of strct_int shp_zn) rfl
    · exact owe_call1 rfl (wants_all rfl) rfl (opnd_const _) (fresh_zn _) rfl (fun args w => by go_simp) (g_zof 1 (by omega) (by omega))
    · exact owe_call2 rfl (wants_all rfl) rfl (opnd_op 0 29 (by kernel_rfl) rfl) (opnd_op 1 30 (by kernel_rfl) rfl) (fresh_zn _) rfl (fun args w => by go_simp) (fun w u v h1 h2 => g_zadd (by omega) (by omega) w u v ((zn_zv dF) _ _ h1) ((zn_zv d1) _ _ h2))
    · exact owe_set rfl (wants_all rfl) rfl (k := 3) rfl (by kernel_rfl) (opnd_op 2 31 (by kernel_rfl) rfl) (stores_of strct_int shp_zn shp_zn) rfl
  intro B5 a5 W5 S5
  replace S5 : Sta w 33 [(2, (.box 24 (Zx s p n c xs))), (3, (.box 24 (Zx t q m d ys))), (4, (.box 24 (Is (.agg #[.bool false, .slice none 0 0])))), (6, (.box 24 ((ZN ((fl A B) + 1)) w.heap.size))), (7, (.box 24 ((ZN (rm A B)) w.heap.size)))] [(28, (Is (.bool true))), (17, (Is (.bool false))), (8, (Is (.int .i64 0))), (5, (Is (.int .i64 0)))] B5 a5 W5 := S5
  refine thenN ?_
  refine wp_stmt_seq [.val ((ZN ((fl A B) + 1)) w.heap.size),
      .put (.inl 4) (.box 24 ((ZN ((fl A B) + 1)) w.heap.size)),
      .val (Is (.int .i64 0))] [.inr 0, .inr 1, .inr 2, .inr 3, .inr 4] [.inl 2, .inr 0, .inr 1, .inr 2] follows S5 rfl (by kernel_rfl) ?_ ?_
  · refine ⟨⟨⟨trivial, ?_⟩, ?_⟩, ?_⟩
    · exact owe_load rfl (wants_all rfl) rfl (k := 3) rfl (by kernel_rfl) (loads_of strct_int shp_zn) rfl
    · exact owe_set rfl (wants_all rfl) rfl (k := 2) rfl (by kernel_rfl) (opnd_op 0 32 (by kernel_rfl) rfl) (stores_of strct_int shp_z0 shp_zn) rfl
    · exact owe_move rfl (wants_all rfl) (Or.inr rfl) (opnd_const _) rfl
  intro B6 a6 W6 S6
  replace S6 : Sta w 33 [(2, (.box 24 (Zx s p n c xs))), (3, (.box 24 (Zx t q m d ys))), (4, (.box 24 ((ZN ((fl A B) + 1)) w.heap.size))), (6, (.box 24 ((ZN ((fl A B) + 1)) w.heap.size))), (7, (.box 24 ((ZN (rm A B)) w.heap.size)))] [(5, (Is (.int .i64 0))), (28, (Is (.bool true))), (17, (Is (.bool false))), (8, (Is (.int .i64 0)))] B6 a6 W6 := S6
  refine wp_ret ?_
  exact end_two S6 rfl (res_cell S6 2 4 rfl strct_int shp_zn) (res_tmp S6 0 5 rfl)

set_option maxHeartbeats 400000 in
theorem znear_w2 (w : World) (s t : Bool) (p q : Option Addr) (n c m d : Nat) (xs ys : List Nat) (h : Sl w p n c xs) (h' : Sl w q m d ys) (A B : Int) (eA : sg s (val xs) = A) (eB : sg t (val ys) = B) (hB : B ≠ 0) (hc : cmpN ((rm A B).natAbs + (rm A B).natAbs) (val ys) < 0) (hs : n + m + 9 ≤ 35184372088831) :
    Calls Tryd.prog 6 #[.agg #[.bool s, .slice p n c], .agg #[.bool t, .slice q m d]] w (Gives (TWO (ZN (fl A B)) (IS (.int .i64 0))) w) := by
  have dA : (digs A.natAbs).length ≤ n := by rw [← eA]; exact sg_dl h
  have dB : (digs B.natAbs).length ≤ m := by rw [← eB]; exact sg_dl h'
  have dR : (digs (rm A B).natAbs).length ≤ m := Nat.le_trans (digs_length_mono (rm_le hB)) dB
  have dF : (digs (fl A B).natAbs).length ≤ n + 1 := fl_len hB dA
  have d1 : (digs (1 : Int).natAbs).length ≤ 1 := dl_small (by decide)
  refine calls_sta (sl := [(0, (Zx s p n c xs)), (1, (Zx t q m d ys))]) Tryd.func6 rfl Tryd.ntmps6 (by simp) (args_cons rfl (zx_has h) (args_cons rfl (zx_has h') args_nil)) ?_
  intro a0 S0
  refine wp_stmt_seq [.new (.box 24 (Zx s p n c xs)),
      .new (.box 24 (Zx t q m d ys)),
      .new (.box 24 (Is (.agg #[.bool false, .slice none 0 0]))),
      .val (Is (.int .i64 0))] [.inl 0, .inl 1, .inl 2] [.inl 3] follows S0 rfl (by kernel_rfl) ?_ ?_
  · refine ⟨⟨⟨⟨trivial, ?_⟩, ?_⟩, ?_⟩, ?_⟩
    · exact owe_box rfl (wants_all rfl) rfl (opnd_slot 0 0 rfl (by kernel_rfl)) rfl (fun ρ w h => box_int shp_zx ρ _ _ w h)
    · exact owe_box rfl (wants_all rfl) rfl (opnd_slot 1 1 rfl (by kernel_rfl)) rfl (fun ρ w h => box_int shp_zx ρ _ _ w h)
    · exact owe_new rfl (wants_all rfl) rfl rfl (fun ρ w => alloc_int ρ _ w)
    · exact owe_move rfl (wants_all rfl) (Or.inr rfl) (opnd_const _) rfl
  intro B1 a1 W1 S1
  replace S1 : Sta w 33 [(2, (.box 24 (Zx s p n c xs))), (3, (.box 24 (Zx t q m d ys))), (4, (.box 24 (Is (.agg #[.bool false, .slice none 0 0]))))] [(5, (Is (.int .i64 0)))] B1 a1 W1 := S1
  refine wp_stmt_seq [.val (Zx s p n c xs),
      .val (Zx t q m d ys),
      .val ((THREE (ZN (fl A B)) (ZN (rm A B)) (IS (.int .i64 0))) w.heap.size),
      .val ((THREE (ZN (fl A B)) (ZN (rm A B)) (IS (.int .i64 0))) w.heap.size),
      .val ((ZN (fl A B)) w.heap.size),
      .val ((ZN (rm A B)) w.heap.size),
      .val (Is (.int .i64 0)),
      .new (.box 24 (Is (.agg #[.bool false, .slice none 0 0]))),
      .new (.box 24 (Is (.agg #[.bool false, .slice none 0 0]))),
      .put (.inr 7) (.box 24 ((ZN (fl A B)) w.heap.size)),
      .put (.inr 8) (.box 24 ((ZN (rm A B)) w.heap.size)),
      .val (Is (.int .i64 0))] [.inr 0, .inr 1, .inr 2, .inl 7, .inl 8] [.inl 11, .inr 0] follows S1 rfl (by kernel_rfl) ?_ ?_
  · refine ⟨⟨⟨⟨⟨⟨⟨⟨⟨⟨⟨⟨trivial, ?_⟩, ?_⟩, ?_⟩, ?_⟩, ?_⟩, ?_⟩, ?_⟩, ?_⟩, ?_⟩, ?_⟩, ?_⟩, ?_⟩
    · exact owe_load rfl (wants_all rfl) rfl (k := 0) rfl (by kernel_rfl) (loads_of strct_int shp_zx) rfl
    · exact owe_load rfl (wants_all rfl) rfl (k := 1) rfl (by kernel_rfl) (loads_of strct_int shp_zx) rfl
    · exact owe_call2 rfl (wants_all rfl) rfl (opnd_op 0 10 (by kernel_rfl) rfl) (opnd_op 1 11 (by kernel_rfl) rfl) (fresh_three (fresh_zn _) (fresh_zn _) (fresh_is _)) rfl (fun args w => by go_simp) (fun w u v h1 h2 => g_zfloor hB (by omega) (by omega) w u v ((zx_zv' eA (Nat.le_refl _)) _ _ h1) ((zx_zv' eB (Nat.le_refl _)) _ _ h2))
    · exact owe_move rfl (wants_all rfl) (Or.inl rfl) (opnd_op 2 12 (by kernel_rfl) rfl) rfl
    · exact owe_ext3 rfl (wants_all rfl) rfl (opnd_op 3 9 (by kernel_rfl) rfl) (Or.inl ⟨rfl, rfl⟩) rfl
    · exact owe_ext3 rfl (wants_all rfl) rfl (opnd_op 3 9 (by kernel_rfl) rfl) (Or.inr (Or.inl ⟨rfl, rfl⟩)) rfl
    · exact owe_ext3 rfl (wants_all rfl) rfl (opnd_op 3 9 (by kernel_rfl) rfl) (Or.inr (Or.inr ⟨rfl, rfl⟩)) rfl
    · exact owe_new rfl (wants_all rfl) rfl rfl (fun ρ w => alloc_int ρ _ w)
    · exact owe_new rfl (wants_all rfl) rfl rfl (fun ρ w => alloc_int ρ _ w)
    · exact owe_put 7 rfl (wants_all rfl) rfl (by kernel_rfl) rfl (opnd_op 4 13 (by kernel_rfl) rfl) (stores_of strct_int shp_z0 shp_zn) rfl
    · exact owe_put 8 rfl (wants_all rfl) rfl (by kernel_rfl) rfl (opnd_op 5 14 (by kernel_rfl) rfl) (stores_of strct_int shp_z0 shp_zn) rfl
    · exact owe_move rfl (wants_all rfl) (Or.inr rfl) (opnd_op 6 15 (by kernel_rfl) rfl) rfl
  intro B2 a2 W2 S2
  replace S2 : Sta w 33 [(2, (.box 24 (Zx s p n c xs))), (3, (.box 24 (Zx t q m d ys))), (4, (.box 24 (Is (.agg #[.bool false, .slice none 0 0])))), (6, (.box 24 ((ZN (fl A B)) w.heap.size))), (7, (.box 24 ((ZN (rm A B)) w.heap.size)))] [(8, (Is (.int .i64 0))), (5, (Is (.int .i64 0)))] B2 a2 W2 := S2
  refine wp_seq ?_
  refine wp_stmt_seq [.val (Is (.int .i64 0)),
      .val (Is (.bool false))] [.inr 0, .inr 1, .inr 2, .inr 3, .inr 4] [.inl 1, .inr 0, .inr 1] follows S2 rfl (by kernel_rfl) ?_ ?_
  · refine ⟨⟨trivial, ?_⟩, ?_⟩
    · exact owe_move rfl (wants_all rfl) (Or.inl rfl) (opnd_slot 0 8 rfl (by kernel_rfl)) rfl
    · exact owe_bin rfl (wants_all rfl) rfl (opnd_op 0 16 (by kernel_rfl) rfl) (opnd_const _) rfl (fun ρ w h1 h2 => by exact run_neq_errno_f ρ _ _ _ w _ _ rfl h1 h2)
  intro B3 a3 W3 S3
  replace S3 : Sta w 33 [(2, (.box 24 (Zx s p n c xs))), (3, (.box 24 (Zx t q m d ys))), (4, (.box 24 (Is (.agg #[.bool false, .slice none 0 0])))), (6, (.box 24 ((ZN (fl A B)) w.heap.size))), (7, (.box 24 ((ZN (rm A B)) w.heap.size)))] [(17, (Is (.bool false))), (8, (Is (.int .i64 0))), (5, (Is (.int .i64 0)))] B3 a3 W3 := S3
  refine wp_cond_false (S3.bool 0 17 rfl) ?_
  refine wp_skip ?_
  refine thenN ?_
  refine wp_seq ?_
  refine wp_stmt_seq [.val (Part a3 7 1),
      .val ((NN ((rm A B).natAbs)) w.heap.size),
      .val (Part a3 7 1),
      .val ((NN ((rm A B).natAbs)) w.heap.size),
      .val ((NN (((rm A B).natAbs) + ((rm A B).natAbs))) w.heap.size),
      .val (Part a3 3 1),
      .val (Nx q m d ys),
      .val (Is (.int .i64 (cmpN (((rm A B).natAbs) + ((rm A B).natAbs)) (val ys)))),
      .val (Is (.bool false))] [.inr 0, .inr 1, .inr 2, .inr 3, .inr 4] [.inl 8, .inr 0, .inr 1, .inr 2] follows S3 rfl (by kernel_rfl) ?_ ?_
  · refine ⟨⟨⟨⟨⟨⟨⟨⟨⟨trivial, ?_⟩, ?_⟩, ?_⟩, ?_⟩, ?_⟩, ?_⟩, ?_⟩, ?_⟩, ?_⟩
    · exact owe_part rfl (wants_all rfl) rfl (k := 4) rfl (by kernel_rfl) rfl (fun ρ w b h => part_int1 ρ _ _ w b 0 h)
    · exact owe_pload rfl (wants_all rfl) rfl (opnd_op 0 20 (by kernel_rfl) rfl) (k := 4) rfl (by kernel_rfl) rfl (fun ρ w b u h1 h2 h3 => pload_mag zn_mag ρ _ _ w b u h1 h2 h3)
    · exact owe_part rfl (wants_all rfl) rfl (k := 4) rfl (by kernel_rfl) rfl (fun ρ w b h => part_int1 ρ _ _ w b 0 h)
    · exact owe_pload rfl (wants_all rfl) rfl (opnd_op 2 22 (by kernel_rfl) rfl) (k := 4) rfl (by kernel_rfl) rfl (fun ρ w b u h1 h2 h3 => pload_mag zn_mag ρ _ _ w b u h1 h2 h3)
    · exact owe_call2 rfl (wants_all rfl) rfl (opnd_op 1 21 (by kernel_rfl) rfl) (opnd_op 3 23 (by kernel_rfl) rfl) (fresh_nn _) rfl (fun args w => by go_simp) (fun w u v h1 h2 => g_add (by omega) (by omega) w u v ((nn_nv dR) _ _ h1) ((nn_nv dR) _ _ h2))
    · exact owe_part rfl (wants_all rfl) rfl (k := 1) rfl (by kernel_rfl) rfl (fun ρ w b h => part_int1 ρ _ _ w b 0 h)
    · exact owe_pload rfl (wants_all rfl) rfl (opnd_op 5 25 (by kernel_rfl) rfl) (k := 1) rfl (by kernel_rfl) rfl (fun ρ w b u h1 h2 h3 => pload_mag zx_mag ρ _ _ w b u h1 h2 h3)
    · exact owe_call2 rfl (wants_all rfl) rfl (opnd_op 4 24 (by kernel_rfl) rfl) (opnd_op 6 26 (by kernel_rfl) rfl) (fresh_is _) rfl (fun args w => by go_simp) (fun w u v h1 h2 => g_cmp  w u v ((nn_nv (Nat.le_refl _)) _ _ h1) ((nx_nv (Nat.le_refl _)) _ _ h2))
    · exact owe_bin rfl (wants_all rfl) rfl (opnd_op 7 27 (by kernel_rfl) rfl) (opnd_const _) rfl (fun ρ w h1 h2 => by exact run_geq_int_f ρ _ _ _ w _ _ hc h1 h2)
  intro B4 a4 W4 S4
  replace S4 : Sta w 33 [(2, (.box 24 (Zx s p n c xs))), (3, (.box 24 (Zx t q m d ys))), (4, (.box 24 (Is (.agg #[.bool false, .slice none 0 0])))), (6, (.box 24 ((ZN (fl A B)) w.heap.size))), (7, (.box 24 ((ZN (rm A B)) w.heap.size)))] [(28, (Is (.bool false))), (17, (Is (.bool false))), (8, (Is (.int .i64 0))), (5, (Is (.int .i64 0)))] B4 a4 W4 := S4
  refine wp_cond_false (S4.bool 0 28 rfl) ?_
  refine wp_skip ?_
  refine thenN ?_
  refine wp_stmt_seq [.val ((ZN (fl A B)) w.heap.size),
      .put (.inl 4) (.box 24 ((ZN (fl A B)) w.heap.size)),
      .val (Is (.int .i64 0))] [.inr 0, .inr 1, .inr 2, .inr 3, .inr 4] [.inl 2, .inr 0, .inr 1, .inr 2] follows S4 rfl (by kernel_rfl) ?_ ?_
  · refine ⟨⟨⟨trivial, ?_⟩, ?_⟩, ?_⟩
    · exact owe_load rfl (wants_all rfl) rfl (k := 3) rfl (by kernel_rfl) (loads_of strct_int shp_zn) rfl
    · exact owe_set rfl (wants_all rfl) rfl (k := 2) rfl (by kernel_rfl) (opnd_op 0 32 (by kernel_rfl) rfl) (stores_of strct_int shp_z0 shp_zn) rfl
    · exact owe_move rfl (wants_all rfl) (Or.inr rfl) (opnd_const _) rfl
  intro B5 a5 W5 S5
  replace S5 : Sta w 33 [(2, (.box 24 (Zx s p n c xs))), (3, (.box 24 (Zx t q m d ys))), (4, (.box 24 ((ZN (fl A B)) w.heap.size))), (6, (.box 24 ((ZN (fl A B)) w.heap.size))), (7, (.box 24 ((ZN (rm A B)) w.heap.size)))] [(5, (Is (.int .i64 0))), (28, (Is (.bool false))), (17, (Is (.bool false))), (8, (Is (.int .i64 0)))] B5 a5 W5 := S5
  refine wp_ret ?_
  exact end_two S5 rfl (res_cell S5 2 4 rfl strct_int shp_zn) (res_tmp S5 0 5 rfl)

theorem g_znear0 {A B : Int} {ka kb : Nat} (hB : B = 0)  : ∀ w u v, Zv A ka u w → Zv B kb v w → Calls Tryd.prog 6 #[u, v] w (Gives (TWO (IS (.agg #[.bool false, .slice none 0 0])) (IS (.int .i64 11))) w) := by
  rintro w u v ⟨s, p, n, c, xs, rfl, h, rfl, hn⟩ ⟨t, q, m, d, ys, rfl, h', rfl, hm⟩
  exact znear_w0 w s t p q n c m d xs ys h h' _ _ rfl rfl hB

theorem g_znear {A B : Int} {ka kb : Nat} (hB : B ≠ 0) (hk : ka + kb + 9 ≤ 35184372088831) : ∀ w u v, Zv A ka u w → Zv B kb v w → Calls Tryd.prog 6 #[u, v] w (Gives (TWO (ZN (nr A B)) (IS (.int .i64 0))) w) := by
  rintro w u v ⟨s, p, n, c, xs, rfl, h, rfl, hn⟩ ⟨t, q, m, d, ys, rfl, h', rfl, hm⟩
  have ey := sg_abs t (val ys)
  by_cases hc : val ys ≤ 2 * (rm (sg s (val xs)) (sg t (val ys))).natAbs
  · rw [← near_up hB (by rw [ey]; exact hc)]
    exact znear_w1 w s t p q n c m d xs ys h h' _ _ rfl rfl hB (cmpN_ge0 (by omega)) (by omega)
  · rw [← near_down hB (by rw [ey]; omega)]
    exact znear_w2 w s t p q n c m d xs ys h h' _ _ rfl rfl hB (cmpN_lt0 (by omega)) (by omega)

set_option maxHeartbeats 400000 in
theorem zexact_w0 (w : World) (s t : Bool) (p q : Option Addr) (n c m d : Nat) (xs ys : List Nat) (h : Sl w p n c xs) (h' : Sl w q m d ys) (hy : val ys = 0) :
    Calls Tryd.prog 17 #[.agg #[.bool s, .slice p n c], .agg #[.bool t, .slice q m d]] w (Gives (TWO (IS (.agg #[.bool false, .slice none 0 0])) (IS (.int .i64 11))) w) := by
  refine calls_sta (sl := [(0, (Zx s p n c xs)), (1, (Zx t q m d ys))]) Tryd.func17 rfl Tryd.ntmps17 (by simp) (args_cons rfl (zx_has h) (args_cons rfl (zx_has h') args_nil)) ?_
  intro a0 S0
  refine wp_stmt_seq [.new (.box 24 (Zx s p n c xs)),
      .new (.box 24 (Zx t q m d ys)),
      .new (.box 24 (Is (.agg #[.bool false, .slice none 0 0]))),
      .val (Is (.int .i64 0))] [.inl 0, .inl 1, .inl 2] [.inl 3] follows S0 rfl (by kernel_rfl) ?_ ?_
  · refine ⟨⟨⟨⟨trivial, ?_⟩, ?_⟩, ?_⟩, ?_⟩
    · exact owe_box rfl (wants_all rfl) rfl (opnd_slot 0 0 rfl (by kernel_rfl)) rfl (fun ρ w h => box_int shp_zx ρ _ _ w h)
    · exact owe_box rfl (wants_all rfl) rfl (opnd_slot 1 1 rfl (by kernel_rfl)) rfl (fun ρ w h => box_int shp_zx ρ _ _ w h)
    · exact owe_new rfl (wants_all rfl) rfl rfl (fun ρ w => alloc_int ρ _ w)
    · exact owe_move rfl (wants_all rfl) (Or.inr rfl) (opnd_const _) rfl
  intro B1 a1 W1 S1
  replace S1 : Sta w 35 [(2, (.box 24 (Zx s p n c xs))), (3, (.box 24 (Zx t q m d ys))), (4, (.box 24 (Is (.agg #[.bool false, .slice none 0 0]))))] [(5, (Is (.int .i64 0)))] B1 a1 W1 := S1
  refine wp_stmt_seq [.val (Part a1 2 1),
      .val (Nx p n c xs),
      .val (Part a1 3 1),
      .val (Nx q m d ys),
      .val ((THREE (IS (.slice none 0 0)) (IS (.slice none 0 0)) (IS (.int .i64 11))) w.heap.size),
      .val ((THREE (IS (.slice none 0 0)) (IS (.slice none 0 0)) (IS (.int .i64 11))) w.heap.size),
      .val (Is (.slice none 0 0)),
      .val (Is (.slice none 0 0)),
      .val (Is (.int .i64 11)),
      .val (Is (.slice none 0 0)),
      .val (Is (.slice none 0 0)),
      .val (Is (.int .i64 11))] [.inr 0, .inr 1, .inr 2] [.inl 9, .inl 10, .inl 11, .inr 0] follows S1 rfl (by kernel_rfl) ?_ ?_
  · refine ⟨⟨⟨⟨⟨⟨⟨⟨⟨⟨⟨⟨trivial, ?_⟩, ?_⟩, ?_⟩, ?_⟩, ?_⟩, ?_⟩, ?_⟩, ?_⟩, ?_⟩, ?_⟩, ?_⟩, ?_⟩
    · exact owe_part rfl (wants_all rfl) rfl (k := 0) rfl (by kernel_rfl) rfl (fun ρ w b h => part_int1 ρ _ _ w b 0 h)
    · exact owe_pload rfl (wants_all rfl) rfl (opnd_op 0 10 (by kernel_rfl) rfl) (k := 0) rfl (by kernel_rfl) rfl (fun ρ w b u h1 h2 h3 => pload_mag zx_mag ρ _ _ w b u h1 h2 h3)
    · exact owe_part rfl (wants_all rfl) rfl (k := 1) rfl (by kernel_rfl) rfl (fun ρ w b h => part_int1 ρ _ _ w b 0 h)
    · exact owe_pload rfl (wants_all rfl) rfl (opnd_op 2 12 (by kernel_rfl) rfl) (k := 1) rfl (by kernel_rfl) rfl (fun ρ w b u h1 h2 h3 => pload_mag zx_mag ρ _ _ w b u h1 h2 h3)
    · exact owe_call2 rfl (wants_all rfl) rfl (opnd_op 1 11 (by kernel_rfl) rfl) (opnd_op 3 13 (by kernel_rfl) rfl) (fresh_three (fresh_is _) (fresh_is _) (fresh_is _)) rfl (fun args w => by go_simp) (fun w u v h1 h2 => g_div0 hy w u v ((nx_nv (Nat.le_refl _)) _ _ h1) ((nx_nv (Nat.le_refl _)) _ _ h2))
    · exact owe_move rfl (wants_all rfl) (Or.inl rfl) (opnd_op 4 14 (by kernel_rfl) rfl) rfl
    · exact owe_ext3 rfl (wants_all rfl) rfl (opnd_op 5 9 (by kernel_rfl) rfl) (Or.inl ⟨rfl, rfl⟩) rfl
    · exact owe_ext3 rfl (wants_all rfl) rfl (opnd_op 5 9 (by kernel_rfl) rfl) (Or.inr (Or.inl ⟨rfl, rfl⟩)) rfl
    · exact owe_ext3 rfl (wants_all rfl) rfl (opnd_op 5 9 (by kernel_rfl) rfl) (Or.inr (Or.inr ⟨rfl, rfl⟩)) rfl
    · exact owe_move rfl (wants_all rfl) (Or.inr rfl) (opnd_op 6 15 (by kernel_rfl) rfl) rfl
    · exact owe_move rfl (wants_all rfl) (Or.inr rfl) (opnd_op 7 16 (by kernel_rfl) rfl) rfl
    · exact owe_move rfl (wants_all rfl) (Or.inr rfl) (opnd_op 8 17 (by kernel_rfl) rfl) rfl
  intro B2 a2 W2 S2
  replace S2 : Sta w 35 [(2, (.box 24 (Zx s p n c xs))), (3, (.box 24 (Zx t q m d ys))), (4, (.box 24 (Is (.agg #[.bool false, .slice none 0 0]))))] [(6, (Is (.slice none 0 0))), (7, (Is (.slice none 0 0))), (8, (Is (.int .i64 11))), (5, (Is (.int .i64 0)))] B2 a2 W2 := S2
  refine wp_seq ?_
  refine wp_block ?_
  refine wp_stmt_seq [.val (Is (.int .i64 11)),
      .val (Is (.bool true)),
      .val (Is (.bool true))] [.inr 0, .inr 1, .inr 2] [.inl 2, .inr 0, .inr 1, .inr 2, .inr 3] follows S2 rfl (by kernel_rfl) ?_ ?_
  · refine ⟨⟨⟨trivial, ?_⟩, ?_⟩, ?_⟩
    · exact owe_move rfl (wants_all rfl) (Or.inl rfl) (opnd_slot 2 8 rfl (by kernel_rfl)) rfl
    · exact owe_bin rfl (wants_all rfl) rfl (opnd_op 0 19 (by kernel_rfl) rfl) (opnd_const _) rfl (fun ρ w h1 h2 => by exact run_neq_errno_t ρ _ _ _ w _ _ (by decide) h1 h2)
    · exact owe_move rfl (wants_all rfl) (Or.inr rfl) (opnd_op 1 20 (by kernel_rfl) rfl) rfl
  intro B3 a3 W3 S3
  replace S3 : Sta w 35 [(2, (.box 24 (Zx s p n c xs))), (3, (.box 24 (Zx t q m d ys))), (4, (.box 24 (Is (.agg #[.bool false, .slice none 0 0]))))] [(18, (Is (.bool true))), (6, (Is (.slice none 0 0))), (7, (Is (.slice none 0 0))), (8, (Is (.int .i64 11))), (5, (Is (.int .i64 0)))] B3 a3 W3 := S3
  refine wp_cond_true (S3.bool 0 18 rfl) ?_
  refine wp_stmt_seq [.val (Is (.agg #[.bool false, .slice none 0 0])),
      .val (Is (.int .i64 11)),
      .put (.inl 4) (.box 24 (Is (.agg #[.bool false, .slice none 0 0]))),
      .val (Is (.int .i64 11))] [.inr 0, .inr 1, .inr 2] [.inl 3, .inr 0, .inr 1, .inr 2, .inr 3] follows S3 rfl (by kernel_rfl) ?_ ?_
  · refine ⟨⟨⟨⟨trivial, ?_⟩, ?_⟩, ?_⟩, ?_⟩
    · exact owe_build_int rfl (wants_all rfl) rfl rfl
    · exact owe_move rfl (wants_all rfl) (Or.inl rfl) (opnd_slot 3 8 rfl (by kernel_rfl)) rfl
    · exact owe_set rfl (wants_all rfl) rfl (k := 2) rfl (by kernel_rfl) (opnd_op 0 21 (by kernel_rfl) rfl) (stores_of strct_int shp_z0 shp_z0) rfl
    · exact owe_move rfl (wants_all rfl) (Or.inr rfl) (opnd_op 1 22 (by kernel_rfl) rfl) rfl
  intro B4 a4 W4 S4
  replace S4 : Sta w 35 [(2, (.box 24 (Zx s p n c xs))), (3, (.box 24 (Zx t q m d ys))), (4, (.box 24 (Is (.agg #[.bool false, .slice none 0 0]))))] [(5, (Is (.int .i64 11))), (18, (Is (.bool true))), (6, (Is (.slice none 0 0))), (7, (Is (.slice none 0 0))), (8, (Is (.int .i64 11)))] B4 a4 W4 := S4
  refine wp_ret ?_
  refine inBlkR ?_
  refine thenR ?_
  exact end_two S4 rfl (res_cell S4 2 4 rfl strct_int shp_z0) (res_tmp S4 0 5 rfl)

set_option maxHeartbeats 400000 in
theorem zexact_w1 (w : World) (s t : Bool) (p q : Option Addr) (n c m d : Nat) (xs ys : List Nat) (h : Sl w p n c xs) (h' : Sl w q m d ys) (hy : val ys ≠ 0) (hl : (0 : Int) < (((digs (val xs % val ys)).length : Nat) : Int)) (hs : n + m + 9 ≤ 35184372088831) :
    Calls Tryd.prog 17 #[.agg #[.bool s, .slice p n c], .agg #[.bool t, .slice q m d]] w (Gives (TWO (IS (.agg #[.bool false, .slice none 0 0])) (IS (.int .i64 20))) w) := by
  refine calls_sta (sl := [(0, (Zx s p n c xs)), (1, (Zx t q m d ys))]) Tryd.func17 rfl Tryd.ntmps17 (by simp) (args_cons rfl (zx_has h) (args_cons rfl (zx_has h') args_nil)) ?_
  intro a0 S0
  refine wp_stmt_seq [.new (.box 24 (Zx s p n c xs)),
      .new (.box 24 (Zx t q m d ys)),
      .new (.box 24 (Is (.agg #[.bool false, .slice none 0 0]))),
      .val (Is (.int .i64 0))] [.inl 0, .inl 1, .inl 2] [.inl 3] follows S0 rfl (by kernel_rfl) ?_ ?_
  · refine ⟨⟨⟨⟨trivial, ?_⟩, ?_⟩, ?_⟩, ?_⟩
    · exact owe_box rfl (wants_all rfl) rfl (opnd_slot 0 0 rfl (by kernel_rfl)) rfl (fun ρ w h => box_int shp_zx ρ _ _ w h)
    · exact owe_box rfl (wants_all rfl) rfl (opnd_slot 1 1 rfl (by kernel_rfl)) rfl (fun ρ w h => box_int shp_zx ρ _ _ w h)
    · exact owe_new rfl (wants_all rfl) rfl rfl (fun ρ w => alloc_int ρ _ w)
    · exact owe_move rfl (wants_all rfl) (Or.inr rfl) (opnd_const _) rfl
  intro B1 a1 W1 S1
  replace S1 : Sta w 35 [(2, (.box 24 (Zx s p n c xs))), (3, (.box 24 (Zx t q m d ys))), (4, (.box 24 (Is (.agg #[.bool false, .slice none 0 0]))))] [(5, (Is (.int .i64 0)))] B1 a1 W1 := S1
  refine wp_stmt_seq [.val (Part a1 2 1),
      .val (Nx p n c xs),
      .val (Part a1 3 1),
      .val (Nx q m d ys),
      .val ((THREE (NN (val xs / val ys)) (NN (val xs % val ys)) (IS (.int .i64 0))) w.heap.size),
      .val ((THREE (NN (val xs / val ys)) (NN (val xs % val ys)) (IS (.int .i64 0))) w.heap.size),
      .val ((NN (val xs / val ys)) w.heap.size),
      .val ((NN (val xs % val ys)) w.heap.size),
      .val (Is (.int .i64 0)),
      .val ((NN (val xs / val ys)) w.heap.size),
      .val ((NN (val xs % val ys)) w.heap.size),
      .val (Is (.int .i64 0))] [.inr 0, .inr 1, .inr 2] [.inl 9, .inl 10, .inl 11, .inr 0] follows S1 rfl (by kernel_rfl) ?_ ?_
  · refine ⟨⟨⟨⟨⟨⟨⟨⟨⟨⟨⟨⟨trivial, ?_⟩, ?_⟩, ?_⟩, ?_⟩, ?_⟩, ?_⟩, ?_⟩, ?_⟩, ?_⟩, ?_⟩, ?_⟩, ?_⟩
    · exact owe_part rfl (wants_all rfl) rfl (k := 0) rfl (by kernel_rfl) rfl (fun ρ w b h => part_int1 ρ _ _ w b 0 h)
    · exact owe_pload rfl (wants_all rfl) rfl (opnd_op 0 10 (by kernel_rfl) rfl) (k := 0) rfl (by kernel_rfl) rfl (fun ρ w b u h1 h2 h3 => pload_mag zx_mag ρ _ _ w b u h1 h2 h3)
    · exact owe_part rfl (wants_all rfl) rfl (k := 1) rfl (by kernel_rfl) rfl (fun ρ w b h => part_int1 ρ _ _ w b 0 h)
    · exact owe_pload rfl (wants_all rfl) rfl (opnd_op 2 12 (by kernel_rfl) rfl) (k := 1) rfl (by kernel_rfl) rfl (fun ρ w b u h1 h2 h3 => pload_mag zx_mag ρ _ _ w b u h1 h2 h3)
    · exact owe_call2 rfl (wants_all rfl) rfl (opnd_op 1 11 (by kernel_rfl) rfl) (opnd_op 3 13 (by kernel_rfl) rfl) (fresh_three (fresh_nn _) (fresh_nn _) (fresh_is _)) rfl (fun args w => by go_simp) (fun w u v h1 h2 => g_div hy (by omega) w u v ((nx_nv (Nat.le_refl _)) _ _ h1) ((nx_nv (Nat.le_refl _)) _ _ h2))
    · exact owe_move rfl (wants_all rfl) (Or.inl rfl) (opnd_op 4 14 (by kernel_rfl) rfl) rfl
    · exact owe_ext3 rfl (wants_all rfl) rfl (opnd_op 5 9 (by kernel_rfl) rfl) (Or.inl ⟨rfl, rfl⟩) rfl
    · exact owe_ext3 rfl (wants_all rfl) rfl (opnd_op 5 9 (by kernel_rfl) rfl) (Or.inr (Or.inl ⟨rfl, rfl⟩)) rfl
    · exact owe_ext3 rfl (wants_all rfl) rfl (opnd_op 5 9 (by kernel_rfl) rfl) (Or.inr (Or.inr ⟨rfl, rfl⟩)) rfl
    · exact owe_move rfl (wants_all rfl) (Or.inr rfl) (opnd_op 6 15 (by kernel_rfl) rfl) rfl
    · exact owe_move rfl (wants_all rfl) (Or.inr rfl) (opnd_op 7 16 (by kernel_rfl) rfl) rfl
    · exact owe_move rfl (wants_all rfl) (Or.inr rfl) (opnd_op 8 17 (by kernel_rfl) rfl) rfl
  intro B2 a2 W2 S2
  replace S2 : Sta w 35 [(2, (.box 24 (Zx s p n c xs))), (3, (.box 24 (Zx t q m d ys))), (4, (.box 24 (Is (.agg #[.bool false, .slice none 0 0]))))] [(6, ((NN (val xs / val ys)) w.heap.size)), (7, ((NN (val xs % val ys)) w.heap.size)), (8, (Is (.int .i64 0))), (5, (Is (.int .i64 0)))] B2 a2 W2 := S2
  refine wp_seq ?_
  refine wp_block ?_
  refine wp_stmt_seq [.val (Is (.int .i64 0)),
      .val (Is (.bool false)),
      .val (Is (.bool false))] [.inr 0, .inr 1, .inr 2] [.inl 2, .inr 0, .inr 1, .inr 2, .inr 3] follows S2 rfl (by kernel_rfl) ?_ ?_
  · refine ⟨⟨⟨trivial, ?_⟩, ?_⟩, ?_⟩
    · exact owe_move rfl (wants_all rfl) (Or.inl rfl) (opnd_slot 2 8 rfl (by kernel_rfl)) rfl
    · exact owe_bin rfl (wants_all rfl) rfl (opnd_op 0 19 (by kernel_rfl) rfl) (opnd_const _) rfl (fun ρ w h1 h2 => by exact run_neq_errno_f ρ _ _ _ w _ _ rfl h1 h2)
    · exact owe_move rfl (wants_all rfl) (Or.inr rfl) (opnd_op 1 20 (by kernel_rfl) rfl) rfl
  intro B3 a3 W3 S3
  replace S3 : Sta w 35 [(2, (.box 24 (Zx s p n c xs))), (3, (.box 24 (Zx t q m d ys))), (4, (.box 24 (Is (.agg #[.bool false, .slice none 0 0]))))] [(18, (Is (.bool false))), (6, ((NN (val xs / val ys)) w.heap.size)), (7, ((NN (val xs % val ys)) w.heap.size)), (8, (Is (.int .i64 0))), (5, (Is (.int .i64 0)))] B3 a3 W3 := S3
  refine wp_cond_false (S3.bool 0 18 rfl) ?_
  refine wp_stmt_seq [.val ((NN (val xs % val ys)) w.heap.size),
      .val (Is (.int .i64 ((digs (val xs % val ys)).length : Nat))),
      .val (Is (.bool true)),
      .val (Is (.bool true))] [.inr 0, .inr 1, .inr 2] [.inl 3, .inr 0, .inr 1, .inr 3, .inr 4] follows S3 rfl (by kernel_rfl) ?_ ?_
  · refine ⟨⟨⟨⟨trivial, ?_⟩, ?_⟩, ?_⟩, ?_⟩
    · exact owe_move rfl (wants_all rfl) (Or.inl rfl) (opnd_slot 2 7 rfl (by kernel_rfl)) rfl
    · exact owe_len rfl (wants_all rfl) rfl (opnd_op 0 24 (by kernel_rfl) rfl) nn_len Tryd.underlying22 rfl
    · exact owe_bin rfl (wants_all rfl) rfl (opnd_op 1 25 (by kernel_rfl) rfl) (opnd_const _) rfl (fun ρ w h1 h2 => by exact run_gtr_int_t ρ _ _ _ w _ _ hl h1 h2)
    · exact owe_move rfl (wants_all rfl) (Or.inr rfl) (opnd_op 2 26 (by kernel_rfl) rfl) rfl
  intro B4 a4 W4 S4
  replace S4 : Sta w 35 [(2, (.box 24 (Zx s p n c xs))), (3, (.box 24 (Zx t q m d ys))), (4, (.box 24 (Is (.agg #[.bool false, .slice none 0 0]))))] [(23, (Is (.bool true))), (18, (Is (.bool false))), (6, ((NN (val xs / val ys)) w.heap.size)), (8, (Is (.int .i64 0))), (5, (Is (.int .i64 0)))] B4 a4 W4 := S4
  refine wp_cond_true (S4.bool 0 23 rfl) ?_
  refine wp_stmt_seq [.val (Is (.agg #[.bool false, .slice none 0 0])),
      .put (.inl 4) (.box 24 (Is (.agg #[.bool false, .slice none 0 0]))),
      .val (Is (.int .i64 20))] [.inr 0, .inr 1, .inr 2] [.inl 2, .inr 0, .inr 1, .inr 2, .inr 3] follows S4 rfl (by kernel_rfl) ?_ ?_
  · refine ⟨⟨⟨trivial, ?_⟩, ?_⟩, ?_⟩
    · exact owe_build_int rfl (wants_all rfl) rfl rfl
    · exact owe_set rfl (wants_all rfl) rfl (k := 2) rfl (by kernel_rfl) (opnd_op 0 27 (by kernel_rfl) rfl) (stores_of strct_int shp_z0 shp_z0) rfl
    · exact owe_move rfl (wants_all rfl) (Or.inr rfl) (opnd_const _) rfl
  intro B5 a5 W5 S5
  replace S5 : Sta w 35 [(2, (.box 24 (Zx s p n c xs))), (3, (.box 24 (Zx t q m d ys))), (4, (.box 24 (Is (.agg #[.bool false, .slice none 0 0]))))] [(5, (Is (.int .i64 20))), (23, (Is (.bool true))), (18, (Is (.bool false))), (6, ((NN (val xs / val ys)) w.heap.size)), (8, (Is (.int .i64 0)))] B5 a5 W5 := S5
  refine wp_ret ?_
  refine inBlkR ?_
  refine thenR ?_
  exact end_two S5 rfl (res_cell S5 2 4 rfl strct_int shp_z0) (res_tmp S5 0 5 rfl)

set_option maxHeartbeats 400000 in
theorem zexact_w2 (w : World) (s t : Bool) (p q : Option Addr) (n c m d : Nat) (xs ys : List Nat) (h : Sl w p n c xs) (h' : Sl w q m d ys) (hy : val ys ≠ 0) (hl : (((digs (val xs % val ys)).length : Nat) : Int) ≤ 0) (hs : n + m + 9 ≤ 35184372088831) :
    Calls Tryd.prog 17 #[.agg #[.bool s, .slice p n c], .agg #[.bool t, .slice q m d]] w (Gives (TWO (ZN (sg (s != t) (val xs / val ys))) (IS (.int .i64 0))) w) := by
  refine calls_sta (sl := [(0, (Zx s p n c xs)), (1, (Zx t q m d ys))]) Tryd.func17 rfl Tryd.ntmps17 (by simp) (args_cons rfl (zx_has h) (args_cons rfl (zx_has h') args_nil)) ?_
  intro a0 S0
  refine wp_stmt_seq [.new (.box 24 (Zx s p n c xs)),
      .new (.box 24 (Zx t q m d ys)),
      .new (.box 24 (Is (.agg #[.bool false, .slice none 0 0]))),
      .val (Is (.int .i64 0))] [.inl 0, .inl 1, .inl 2] [.inl 3] follows S0 rfl (by kernel_rfl) ?_ ?_
  · refine ⟨⟨⟨⟨trivial, ?_⟩, ?_⟩, ?_⟩, ?_⟩
    · exact owe_box rfl (wants_all rfl) rfl (opnd_slot 0 0 rfl (by kernel_rfl)) rfl (fun ρ w h => box_int shp_zx ρ _ _ w h)
    · exact owe_box rfl (wants_all rfl) rfl (opnd_slot 1 1 rfl (by kernel_rfl)) rfl (fun ρ w h => box_int shp_zx ρ _ _ w h)
    · exact owe_new rfl (wants_all rfl) rfl rfl (fun ρ w => alloc_int ρ _ w)
    · exact owe_move rfl (wants_all rfl) (Or.inr rfl) (opnd_const _) rfl
  intro B1 a1 W1 S1
  replace S1 : Sta w 35 [(2, (.box 24 (Zx s p n c xs))), (3, (.box 24 (Zx t q m d ys))), (4, (.box 24 (Is (.agg #[.bool false, .slice none 0 0]))))] [(5, (Is (.int .i64 0)))] B1 a1 W1 := S1
  refine wp_stmt_seq [.val (Part a1 2 1),
      .val (Nx p n c xs),
      .val (Part a1 3 1),
      .val (Nx q m d ys),
      .val ((THREE (NN (val xs / val ys)) (NN (val xs % val ys)) (IS (.int .i64 0))) w.heap.size),
      .val ((THREE (NN (val xs / val ys)) (NN (val xs % val ys)) (IS (.int .i64 0))) w.heap.size),
      .val ((NN (val xs / val ys)) w.heap.size),
      .val ((NN (val xs % val ys)) w.heap.size),
      .val (Is (.int .i64 0)),
      .val ((NN (val xs / val ys)) w.heap.size),
      .val ((NN (val xs % val ys)) w.heap.size),
      .val (Is (.int .i64 0))] [.inr 0, .inr 1, .inr 2] [.inl 9, .inl 10, .inl 11, .inr 0] follows S1 rfl (by kernel_rfl) ?_ ?_
  · refine ⟨⟨⟨⟨⟨⟨⟨⟨⟨⟨⟨⟨trivial, ?_⟩, ?_⟩, ?_⟩, ?_⟩, ?_⟩, ?_⟩, ?_⟩, ?_⟩, ?_⟩, ?_⟩, ?_⟩, ?_⟩
    · exact owe_part rfl (wants_all rfl) rfl (k := 0) rfl (by kernel_rfl) rfl (fun ρ w b h => part_int1 ρ _ _ w b 0 h)
    · exact owe_pload rfl (wants_all rfl) rfl (opnd_op 0 10 (by kernel_rfl) rfl) (k := 0) rfl (by kernel_rfl) rfl (fun ρ w b u h1 h2 h3 => pload_mag zx_mag ρ _ _ w b u h1 h2 h3)
    · exact owe_part rfl (wants_all rfl) rfl (k := 1) rfl (by kernel_rfl) rfl (fun ρ w b h => part_int1 ρ _ _ w b 0 h)
    · exact owe_pload rfl (wants_all rfl) rfl (opnd_op 2 12 (by kernel_rfl) rfl) (k := 1) rfl (by kernel_rfl) rfl (fun ρ w b u h1 h2 h3 => pload_mag zx_mag ρ _ _ w b u h1 h2 h3)
    · exact owe_call2 rfl (wants_all rfl) rfl (opnd_op 1 11 (by kernel_rfl) rfl) (opnd_op 3 13 (by kernel_rfl) rfl) (fresh_three (fresh_nn _) (fresh_nn _) (fresh_is _)) rfl (fun args w => by go_simp) (fun w u v h1 h2 => g_div hy (by omega) w u v ((nx_nv (Nat.le_refl _)) _ _ h1) ((nx_nv (Nat.le_refl _)) _ _ h2))
    · exact owe_move rfl (wants_all rfl) (Or.inl rfl) (opnd_op 4 14 (by kernel_rfl) rfl) rfl
    · exact owe_ext3 rfl (wants_all rfl) rfl (opnd_op 5 9 (by kernel_rfl) rfl) (Or.inl ⟨rfl, rfl⟩) rfl
    · exact owe_ext3 rfl (wants_all rfl) rfl (opnd_op 5 9 (by kernel_rfl) rfl) (Or.inr (Or.inl ⟨rfl, rfl⟩)) rfl
    · exact owe_ext3 rfl (wants_all rfl) rfl (opnd_op 5 9 (by kernel_rfl) rfl) (Or.inr (Or.inr ⟨rfl, rfl⟩)) rfl
    · exact owe_move rfl (wants_all rfl) (Or.inr rfl) (opnd_op 6 15 (by kernel_rfl) rfl) rfl
    · exact owe_move rfl (wants_all rfl) (Or.inr rfl) (opnd_op 7 16 (by kernel_rfl) rfl) rfl
    · exact owe_move rfl (wants_all rfl) (Or.inr rfl) (opnd_op 8 17 (by kernel_rfl) rfl) rfl
  intro B2 a2 W2 S2
  replace S2 : Sta w 35 [(2, (.box 24 (Zx s p n c xs))), (3, (.box 24 (Zx t q m d ys))), (4, (.box 24 (Is (.agg #[.bool false, .slice none 0 0]))))] [(6, ((NN (val xs / val ys)) w.heap.size)), (7, ((NN (val xs % val ys)) w.heap.size)), (8, (Is (.int .i64 0))), (5, (Is (.int .i64 0)))] B2 a2 W2 := S2
  refine wp_seq ?_
  refine wp_block ?_
  refine wp_stmt_seq [.val (Is (.int .i64 0)),
      .val (Is (.bool false)),
      .val (Is (.bool false))] [.inr 0, .inr 1, .inr 2] [.inl 2, .inr 0, .inr 1, .inr 2, .inr 3] follows S2 rfl (by kernel_rfl) ?_ ?_
  · refine ⟨⟨⟨trivial, ?_⟩, ?_⟩, ?_⟩
    · exact owe_move rfl (wants_all rfl) (Or.inl rfl) (opnd_slot 2 8 rfl (by kernel_rfl)) rfl
    · exact owe_bin rfl (wants_all rfl) rfl (opnd_op 0 19 (by kernel_rfl) rfl) (opnd_const _) rfl (fun ρ w h1 h2 => by exact run_neq_errno_f ρ _ _ _ w _ _ rfl h1 h2)
    · exact owe_move rfl (wants_all rfl) (Or.inr rfl) (opnd_op 1 20 (by kernel_rfl) rfl) rfl
  intro B3 a3 W3 S3
  replace S3 : Sta w 35 [(2, (.box 24 (Zx s p n c xs))), (3, (.box 24 (Zx t q m d ys))), (4, (.box 24 (Is (.agg #[.bool false, .slice none 0 0]))))] [(18, (Is (.bool false))), (6, ((NN (val xs / val ys)) w.heap.size)), (7, ((NN (val xs % val ys)) w.heap.size)), (8, (Is (.int .i64 0))), (5, (Is (.int .i64 0)))] B3 a3 W3 := S3
  refine wp_cond_false (S3.bool 0 18 rfl) ?_
  refine wp_stmt_seq [.val ((NN (val xs % val ys)) w.heap.size),
      .val (Is (.int .i64 ((digs (val xs % val ys)).length : Nat))),
      .val (Is (.bool false)),
      .val (Is (.bool false))] [.inr 0, .inr 1, .inr 2] [.inl 3, .inr 0, .inr 1, .inr 3, .inr 4] follows S3 rfl (by kernel_rfl) ?_ ?_
  · refine ⟨⟨⟨⟨trivial, ?_⟩, ?_⟩, ?_⟩, ?_⟩
    · exact owe_move rfl (wants_all rfl) (Or.inl rfl) (opnd_slot 2 7 rfl (by kernel_rfl)) rfl
    · exact owe_len rfl (wants_all rfl) rfl (opnd_op 0 24 (by kernel_rfl) rfl) nn_len Tryd.underlying22 rfl
    · exact owe_bin rfl (wants_all rfl) rfl (opnd_op 1 25 (by kernel_rfl) rfl) (opnd_const _) rfl (fun ρ w h1 h2 => by exact run_gtr_int_f ρ _ _ _ w _ _ hl h1 h2)
    · exact owe_move rfl (wants_all rfl) (Or.inr rfl) (opnd_op 2 26 (by kernel_rfl) rfl) rfl
  intro B4 a4 W4 S4
  replace S4 : Sta w 35 [(2, (.box 24 (Zx s p n c xs))), (3, (.box 24 (Zx t q m d ys))), (4, (.box 24 (Is (.agg #[.bool false, .slice none 0 0]))))] [(23, (Is (.bool false))), (18, (Is (.bool false))), (6, ((NN (val xs / val ys)) w.heap.size)), (8, (Is (.int .i64 0))), (5, (Is (.int .i64 0)))] B4 a4 W4 := S4
  refine wp_cond_false (S4.bool 0 23 rfl) ?_
  refine wp_skip ?_
  refine inBlkN ?_
  refine thenN ?_
  refine wp_stmt_seq [.val (Part a4 2 0),
      .val (Is (.bool s)),
      .val (Part a4 3 0),
      .val (Is (.bool t)),
      .val (Is (.bool (s != t))),
      .val ((NN (val xs / val ys)) w.heap.size),
      .val ((ZN (sg (s != t) (val xs / val ys))) w.heap.size),
      .put (.inl 4) (.box 24 ((ZN (sg (s != t) (val xs / val ys))) w.heap.size)),
      .val (Is (.int .i64 0))] [.inr 0, .inr 1, .inr 2] [.inl 8, .inr 0, .inr 1, .inr 3] follows S4 rfl (by kernel_rfl) ?_ ?_
  · refine ⟨⟨⟨⟨⟨⟨⟨⟨⟨trivial, ?_⟩, ?_⟩, ?_⟩, ?_⟩, ?_⟩, ?_⟩, ?_⟩, ?_⟩, ?_⟩
    · exact owe_part rfl (wants_all rfl) rfl (k := 0) rfl (by kernel_rfl) rfl (fun ρ w b h => part_int0 ρ _ _ w b 0 h)
    · exact owe_pload rfl (wants_all rfl) rfl (opnd_op 0 28 (by kernel_rfl) rfl) (k := 0) rfl (by kernel_rfl) rfl (fun ρ w b u h1 h2 h3 => pload_neg zx_neg ρ _ _ w b u h1 h2 h3)
    · exact owe_part rfl (wants_all rfl) rfl (k := 1) rfl (by kernel_rfl) rfl (fun ρ w b h => part_int0 ρ _ _ w b 0 h)
    · exact owe_pload rfl (wants_all rfl) rfl (opnd_op 2 30 (by kernel_rfl) rfl) (k := 1) rfl (by kernel_rfl) rfl (fun ρ w b u h1 h2 h3 => pload_neg zx_neg ρ _ _ w b u h1 h2 h3)
    · exact owe_bin rfl (wants_all rfl) rfl (opnd_op 1 29 (by kernel_rfl) rfl) (opnd_op 3 31 (by kernel_rfl) rfl) rfl (fun ρ w h1 h2 => by exact run_neq_bool ρ _ _ _ w _ _ h1 h2)
    · exact owe_move rfl (wants_all rfl) (Or.inl rfl) (opnd_slot 2 6 rfl (by kernel_rfl)) rfl
    · exact owe_callF2 rfl (wants_all rfl) rfl (opnd_op 4 32 (by kernel_rfl) rfl) (opnd_op 5 33 (by kernel_rfl) rfl) rfl (fun args w => by go_simp) g_signed
    · exact owe_set rfl (wants_all rfl) rfl (k := 2) rfl (by kernel_rfl) (opnd_op 6 34 (by kernel_rfl) rfl) (stores_of strct_int shp_z0 shp_zn) rfl
    · exact owe_move rfl (wants_all rfl) (Or.inr rfl) (opnd_const _) rfl
  intro B5 a5 W5 S5
  replace S5 : Sta w 35 [(2, (.box 24 (Zx s p n c xs))), (3, (.box 24 (Zx t q m d ys))), (4, (.box 24 ((ZN (sg (s != t) (val xs / val ys))) w.heap.size)))] [(5, (Is (.int .i64 0))), (23, (Is (.bool false))), (18, (Is (.bool false))), (8, (Is (.int .i64 0)))] B5 a5 W5 := S5
  refine wp_ret ?_
  exact end_two S5 rfl (res_cell S5 2 4 rfl strct_int shp_zn) (res_tmp S5 0 5 rfl)

theorem g_zexact0 {A B : Int} {ka kb : Nat} (hB : B = 0)  : ∀ w u v, Zv A ka u w → Zv B kb v w → Calls Tryd.prog 17 #[u, v] w (Gives (TWO (IS (.agg #[.bool false, .slice none 0 0])) (IS (.int .i64 11))) w) := by
  rintro w u v ⟨s, p, n, c, xs, rfl, h, rfl, hn⟩ ⟨t, q, m, d, ys, rfl, h', rfl, hm⟩
  exact zexact_w0 w s t p q n c m d xs ys h h' (zv_eq rfl hB)


theorem rm_zero {s t : Bool} {x y : Nat} (hy : y ≠ 0) : rm (sg s x) (sg t y) = 0 ↔ x % y = 0 := by
  by_cases h0 : x % y = 0
  · rw [(floor_plain s t x y hy (Or.inr h0)).2, h0]
    constructor
    · exact fun _ => rfl
    · intro _; cases t <;> rfl
  · have hlt := Nat.mod_lt x (Nat.pos_of_ne_zero hy)
    have : rm (sg s x) (sg t y) ≠ 0 := by
      by_cases hst : s = t
      · rw [(floor_plain s t x y hy (Or.inl hst)).2]
        intro e
        have := sg_abs t (x % y)
        rw [e] at this
        exact h0 (by simpa using this.symm)
      · rw [(floor_up s t x y hy hst h0).2]
        intro e
        have := sg_abs t (y - x % y)
        rw [e] at this
        simp at this
        omega
    exact ⟨fun e => absurd e this, fun e => absurd e h0⟩

theorem g_zexact1 {A B : Int} {ka kb : Nat} (hB : B ≠ 0) (hr : rm A B ≠ 0) (hk : ka + kb + 9 ≤ 35184372088831) : ∀ w u v, Zv A ka u w → Zv B kb v w → Calls Tryd.prog 17 #[u, v] w (Gives (TWO (IS (.agg #[.bool false, .slice none 0 0])) (IS (.int .i64 20))) w) := by
  rintro w u v ⟨s, p, n, c, xs, rfl, h, rfl, hn⟩ ⟨t, q, m, d, ys, rfl, h', rfl, hm⟩
  have hy := zv_ne (t := t) rfl hB
  have h0 : val xs % val ys ≠ 0 := fun e => hr ((rm_zero hy).2 e)
  have hl : (digs (val xs % val ys)).length ≠ 0 := fun e => h0 ((digs_length_zero _).1 e)
  exact zexact_w1 w s t p q n c m d xs ys h h' hy (by omega) (by omega)

theorem g_zexact2 {A B : Int} {ka kb : Nat} (hB : B ≠ 0) (hr : rm A B = 0) (hk : ka + kb + 9 ≤ 35184372088831) : ∀ w u v, Zv A ka u w → Zv B kb v w → Calls Tryd.prog 17 #[u, v] w (Gives (TWO (ZN (fl A B)) (IS (.int .i64 0))) w) := by
  rintro w u v ⟨s, p, n, c, xs, rfl, h, rfl, hn⟩ ⟨t, q, m, d, ys, rfl, h', rfl, hm⟩
  have hy := zv_ne (t := t) rfl hB
  have h0 : val xs % val ys = 0 := (rm_zero hy).1 hr
  rw [(floor_plain s t (val xs) (val ys) hy (Or.inr h0)).1]
  exact zexact_w2 w s t p q n c m d xs ys h h' hy (by rw [h0]; decide) (by omega)

end Go.Proofs.YtblmlhhicpomkaaDoor
