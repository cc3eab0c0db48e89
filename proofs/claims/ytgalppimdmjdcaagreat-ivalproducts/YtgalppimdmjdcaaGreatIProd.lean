/-
  Products and squares of intervals, and IvalProducts.
-/
import Derived.Test.YtgalppimdmjdcaaGreatFlC
import Derived.Test.YtgalppimdmjdcaaGreatIAwake
import Derived.Test.YtgalppimdmjdcaaGreatJoins
namespace Go.Proofs.YtgalppimdmjdcaaGreat
open Go Go.RowKit Nt
set_option linter.unusedSimpArgs false
set_option linter.unusedVariables false
set_option maxRecDepth 20000

theorem gives_f0 {w : World} {e : Ending} {w' : World} (h : Gives (IS (.float .f64 0)) w e w') : Gives (FLN (some 0)) w e w' := by
  obtain ⟨v, he, hb, hv⟩ := h
  exact ⟨v, he, hb, 0, hv, by decide, rfl⟩
theorem lt_t {p q : Int} (h : p < q) : (ordP (some p) (some q) == some .lt) = true := by simp only [ordP]; rw [cmp_lt, decide_eq_true h]
theorem lt_f {p q : Int} (h : ¬ p < q) : (ordP (some p) (some q) == some .lt) = false := by simp only [ordP]; rw [cmp_lt, decide_eq_false h]
theorem gt_t {p q : Int} (h : q < p) : (ordP (some p) (some q) == some .gt) = true := by simp only [ordP]; rw [cmp_gt, decide_eq_true h]
theorem gt_f {p q : Int} (h : ¬ q < p) : (ordP (some p) (some q) == some .gt) = false := by simp only [ordP]; rw [cmp_gt, decide_eq_false h]
theorem le_t {p q : Int} (h : p ≤ q) : (ordP (some p) (some q) == some .lt || ordP (some p) (some q) == some .eq) = true := by simp only [ordP]; rw [cmp_lt, cmp_eq]; simp; omega
theorem le_f {p q : Int} (h : q < p) : (ordP (some p) (some q) == some .lt || ordP (some p) (some q) == some .eq) = false := by simp only [ordP]; rw [cmp_lt, cmp_eq]; simp; omega
theorem ge_t {p q : Int} (h : q ≤ p) : (ordP (some p) (some q) == some .gt || ordP (some p) (some q) == some .eq) = true := by simp only [ordP]; rw [cmp_gt, cmp_eq]; simp; omega
theorem ge_f {p q : Int} (h : p < q) : (ordP (some p) (some q) == some .gt || ordP (some p) (some q) == some .eq) = false := by simp only [ordP]; rw [cmp_gt, cmp_eq]; simp; omega
theorem four_ways (P : Nat → Int) (g : Nat × Int × Int) : (g.1 < 3 ∧ P (g.1 + 1) < g.2.1 ∧ g.2.2 < P (g.1 + 1)) ∨ (g.1 < 3 ∧ P (g.1 + 1) < g.2.1 ∧ ¬ g.2.2 < P (g.1 + 1)) ∨ (g.1 < 3 ∧ ¬ P (g.1 + 1) < g.2.1 ∧ g.2.2 < P (g.1 + 1)) ∨ (g.1 < 3 ∧ ¬ P (g.1 + 1) < g.2.1 ∧ ¬ g.2.2 < P (g.1 + 1)) ∨ 3 ≤ g.1 := by omega
theorem mn_t {P : Nat → Int} {k : Nat} {m : Int} (h : m = mnP P k) (hl : P (k + 1) < m) : P (k + 1) = mnP P (k + 1) := by simp only [mnP]; rw [← h, if_pos hl]
theorem mn_f {P : Nat → Int} {k : Nat} {m : Int} (h : m = mnP P k) (hl : ¬ P (k + 1) < m) : m = mnP P (k + 1) := by simp only [mnP]; rw [← h, if_neg hl]
theorem mx_t {P : Nat → Int} {k : Nat} {m : Int} (h : m = mxP P k) (hl : m < P (k + 1)) : P (k + 1) = mxP P (k + 1) := by simp only [mxP]; rw [← h, if_pos hl]
theorem mx_f {P : Nat → Int} {k : Nat} {m : Int} (h : m = mxP P k) (hl : ¬ m < P (k + 1)) : m = mxP P (k + 1) := by simp only [mxP]; rw [← h, if_neg hl]
set_option maxHeartbeats 400000 in
theorem it_z1 (w : World) (b c : Nat) (hb : b < 18446744073709551616) (hc : c < 18446744073709551616) (h : plc b = some 0) :
    Calls Tryz.prog 56 #[(.float .f64 b), (.float .f64 c)] w (Gives (IS (.float .f64 0)) w) := by
  refine calls_sta (sl := [(0, (Is (.float .f64 b))), (1, (Is (.float .f64 c)))]) Tryz.func56 rfl Tryz.ntmps56 (by simp) (args_cons rfl (is_has _) (args_cons rfl (is_has _) args_nil)) ?_
  intro a0 S0
  refine wp_stmt_seq [.val (Is (.float FloatKind.f64 0))] [] [.inr 0, .inr 1] follows S0 rfl (by kernel_rfl) ?_ ?_
  · refine ⟨trivial, ?_⟩
    · exact mC
  intro B1 a1 W1 (S1 : Sta w 14 [] [(0, Is (.float .f64 b)), (1, Is (.float .f64 c))] _ _ _)
  refine wp_seq ?_
  refine wp_stmt_seq [.val (Is (.float .f64 b)), kT, kT, .off, .off, kT] [] [.inl 5, .inr 0, .inr 1] follows S1 rfl (by kernel_rfl) ?_ ?_
  · refine ⟨⟨⟨⟨⟨⟨trivial, ?_⟩, ?_⟩, ?_⟩, ?_⟩, ?_⟩, ?_⟩
    · exact mS 0 0
    · exact owe_fcmp rfl wA rfl ((oO 0 5).imp (fl_is hb)) ((opnd_const _).imp (fl_is (by decide))) (eq0_t h) rfl
    · exact mO 1 6
    · exact oF 2 7
    · exact oF 2 7
    · exact pT wA (oO 2 7) (opnd_const _)
  intro B2 a2 W2 (S2 : Sta w 14 [] [(10, bT), (0, Is (.float .f64 b)), (1, Is (.float .f64 c))] _ _ _)
  refine wp_cond_true (S2.bool 0 10 rfl) ?_
  refine wp_stmt_seq [.val (Is (.float FloatKind.f64 0))] [] [.inl 0] follows S2 rfl (by kernel_rfl) ?_ ?_
  · refine ⟨trivial, ?_⟩
    · exact mC
  intro B3 a3 W3 (S3 : Sta w 14 [] [(4, Is (.float FloatKind.f64 0))] _ _ _)
  refine wp_ret ?_
  refine thenR ?_
  exact end_one S3 rfl (res_tmp S3 0 4 rfl)
set_option maxHeartbeats 400000 in
theorem it_z2 (w : World) (b c : Nat) (hb : b < 18446744073709551616) (hc : c < 18446744073709551616) (h : plc b ≠ some 0) (h' : plc c = some 0) :
    Calls Tryz.prog 56 #[(.float .f64 b), (.float .f64 c)] w (Gives (IS (.float .f64 0)) w) := by
  refine calls_sta (sl := [(0, (Is (.float .f64 b))), (1, (Is (.float .f64 c)))]) Tryz.func56 rfl Tryz.ntmps56 (by simp) (args_cons rfl (is_has _) (args_cons rfl (is_has _) args_nil)) ?_
  intro a0 S0
  refine wp_stmt_seq [.val (Is (.float FloatKind.f64 0))] [] [.inr 0, .inr 1] follows S0 rfl (by kernel_rfl) ?_ ?_
  · refine ⟨trivial, ?_⟩
    · exact mC
  intro B1 a1 W1 (S1 : Sta w 14 [] [(0, Is (.float .f64 b)), (1, Is (.float .f64 c))] _ _ _)
  refine wp_seq ?_
  refine wp_stmt_seq [.val (Is (.float .f64 b)), kF, kF, .val (Is (.float .f64 c)), kT, kT] [] [.inl 5, .inr 0, .inr 1] follows S1 rfl (by kernel_rfl) ?_ ?_
  · refine ⟨⟨⟨⟨⟨⟨trivial, ?_⟩, ?_⟩, ?_⟩, ?_⟩, ?_⟩, ?_⟩
    · exact mS 0 0
    · exact owe_fcmp rfl wA rfl ((oO 0 5).imp (fl_is hb)) ((opnd_const _).imp (fl_is (by decide))) (eq0_f h) rfl
    · exact mO 1 6
    · exact mW (wI 2 7) (oS 1 1)
    · exact owe_fcmp rfl (wI 2 7) rfl ((oO 3 8).imp (fl_is hc)) ((opnd_const _).imp (fl_is (by decide))) (eq0_t h') rfl
    · exact pF wA (oO 2 7) (oO 4 9)
  intro B2 a2 W2 (S2 : Sta w 14 [] [(10, bT), (0, Is (.float .f64 b)), (1, Is (.float .f64 c))] _ _ _)
  refine wp_cond_true (S2.bool 0 10 rfl) ?_
  refine wp_stmt_seq [.val (Is (.float FloatKind.f64 0))] [] [.inl 0] follows S2 rfl (by kernel_rfl) ?_ ?_
  · refine ⟨trivial, ?_⟩
    · exact mC
  intro B3 a3 W3 (S3 : Sta w 14 [] [(4, Is (.float FloatKind.f64 0))] _ _ _)
  refine wp_ret ?_
  refine thenR ?_
  exact end_one S3 rfl (res_tmp S3 0 4 rfl)
set_option maxHeartbeats 400000 in
theorem it_nz (w : World) (b c : Nat) (hb : b < 18446744073709551616) (hc : c < 18446744073709551616) (h : plc b ≠ some 0) (h' : plc c ≠ some 0) :
    Calls Tryz.prog 56 #[(.float .f64 b), (.float .f64 c)] w (Gives (FLN (arP .mul b c)) w) := by
  refine calls_sta (sl := [(0, (Is (.float .f64 b))), (1, (Is (.float .f64 c)))]) Tryz.func56 rfl Tryz.ntmps56 (by simp) (args_cons rfl (is_has _) (args_cons rfl (is_has _) args_nil)) ?_
  intro a0 S0
  refine wp_stmt_seq [.val (Is (.float FloatKind.f64 0))] [] [.inr 0, .inr 1] follows S0 rfl (by kernel_rfl) ?_ ?_
  · refine ⟨trivial, ?_⟩
    · exact mC
  intro B1 a1 W1 (S1 : Sta w 14 [] [(0, Is (.float .f64 b)), (1, Is (.float .f64 c))] _ _ _)
  refine wp_seq ?_
  refine wp_stmt_seq [.val (Is (.float .f64 b)), kF, kF, .val (Is (.float .f64 c)), kF, kF] [] [.inl 5, .inr 0, .inr 1] follows S1 rfl (by kernel_rfl) ?_ ?_
  · refine ⟨⟨⟨⟨⟨⟨trivial, ?_⟩, ?_⟩, ?_⟩, ?_⟩, ?_⟩, ?_⟩
    · exact mS 0 0
    · exact owe_fcmp rfl wA rfl ((oO 0 5).imp (fl_is hb)) ((opnd_const _).imp (fl_is (by decide))) (eq0_f h) rfl
    · exact mO 1 6
    · exact mW (wI 2 7) (oS 1 1)
    · exact owe_fcmp rfl (wI 2 7) rfl ((oO 3 8).imp (fl_is hc)) ((opnd_const _).imp (fl_is (by decide))) (eq0_f h') rfl
    · exact pF wA (oO 2 7) (oO 4 9)
  intro B2 a2 W2 (S2 : Sta w 14 [] [(10, bF), (0, Is (.float .f64 b)), (1, Is (.float .f64 c))] _ _ _)
  refine wp_cond_false (S2.bool 0 10 rfl) ?_
  refine wp_skip ?_
  refine thenN ?_
  refine wp_stmt_seq [.val (Is (.float .f64 b)), .val (Is (.float .f64 c)), .val (FL (arP .mul b c)), .val (FL (arP .mul b c))] [] [.inl 3] follows S2 rfl (by kernel_rfl) ?_ ?_
  · refine ⟨⟨⟨⟨trivial, ?_⟩, ?_⟩, ?_⟩, ?_⟩
    · exact mS 1 0
    · exact mS 2 1
    · exact owe_farith (by simp) rfl wA rfl (oO 0 11) (oO 1 12) rfl
    · exact mO 2 13
  intro B3 a3 W3 (S3 : Sta w 14 [] [(4, (FL (arP .mul b c)))] _ _ _)
  refine wp_ret ?_
  exact end_one S3 rfl (res_tmp S3 0 4 rfl)

theorem h_it {b c : Nat} (hb : b < 18446744073709551616) (hc : c < 18446744073709551616) {r : Int} (hr : tmP b c = some r) : ∀ w u v, Is (.float .f64 b) u w → Is (.float .f64 c) v w → Calls Tryz.prog 56 #[u, v] w (Gives (FLN (some r)) w) := fun w u v e e' => by
  obtain rfl : u = _ := e
  obtain rfl : v = _ := e'
  rw [← hr]
  by_cases h : plc b = some 0
  · rw [tm_1 h]; exact (it_z1 w b c hb hc h).mono fun e w' => gives_f0
  · by_cases h' : plc c = some 0
    · rw [tm_2 h']; exact (it_z2 w b c hb hc h h').mono fun e w' => gives_f0
    · rw [tm_3 h h']; exact it_nz w b c hb hc h h'
set_option maxHeartbeats 400000 in
theorem rt_z1 (w : World) (b c : Nat) (hb : b < 18446744073709551616) (hc : c < 18446744073709551616) (h : plc b = some 0) :
    Calls Tryz.prog 57 #[(.float .f64 b), (.float .f64 c)] w (Gives (IS (.float .f64 0)) w) := by
  refine calls_sta (sl := [(0, (Is (.float .f64 b))), (1, (Is (.float .f64 c)))]) Tryz.func57 rfl Tryz.ntmps57 (by simp) (args_cons rfl (is_has _) (args_cons rfl (is_has _) args_nil)) ?_
  intro a0 S0
  refine wp_stmt_seq [.val (Is (.float FloatKind.f64 0))] [] [.inr 0, .inr 1] follows S0 rfl (by kernel_rfl) ?_ ?_
  · refine ⟨trivial, ?_⟩
    · exact mC
  intro B1 a1 W1 (S1 : Sta w 14 [] [(0, Is (.float .f64 b)), (1, Is (.float .f64 c))] _ _ _)
  refine wp_seq ?_
  refine wp_stmt_seq [.val (Is (.float .f64 b)), kT, kT, .off, .off, kT] [] [.inl 5, .inr 0, .inr 1] follows S1 rfl (by kernel_rfl) ?_ ?_
  · refine ⟨⟨⟨⟨⟨⟨trivial, ?_⟩, ?_⟩, ?_⟩, ?_⟩, ?_⟩, ?_⟩
    · exact mS 0 0
    · exact owe_fcmp rfl wA rfl ((oO 0 5).imp (fl_is hb)) ((opnd_const _).imp (fl_is (by decide))) (eq0_t h) rfl
    · exact mO 1 6
    · exact oF 2 7
    · exact oF 2 7
    · exact pT wA (oO 2 7) (opnd_const _)
  intro B2 a2 W2 (S2 : Sta w 14 [] [(10, bT), (0, Is (.float .f64 b)), (1, Is (.float .f64 c))] _ _ _)
  refine wp_cond_true (S2.bool 0 10 rfl) ?_
  refine wp_stmt_seq [.val (Is (.float FloatKind.f64 0))] [] [.inl 0] follows S2 rfl (by kernel_rfl) ?_ ?_
  · refine ⟨trivial, ?_⟩
    · exact mC
  intro B3 a3 W3 (S3 : Sta w 14 [] [(4, Is (.float FloatKind.f64 0))] _ _ _)
  refine wp_ret ?_
  refine thenR ?_
  exact end_one S3 rfl (res_tmp S3 0 4 rfl)
set_option maxHeartbeats 400000 in
theorem rt_z2 (w : World) (b c : Nat) (hb : b < 18446744073709551616) (hc : c < 18446744073709551616) (h : plc b ≠ some 0) (h' : plc c = some 0) :
    Calls Tryz.prog 57 #[(.float .f64 b), (.float .f64 c)] w (Gives (IS (.float .f64 0)) w) := by
  refine calls_sta (sl := [(0, (Is (.float .f64 b))), (1, (Is (.float .f64 c)))]) Tryz.func57 rfl Tryz.ntmps57 (by simp) (args_cons rfl (is_has _) (args_cons rfl (is_has _) args_nil)) ?_
  intro a0 S0
  refine wp_stmt_seq [.val (Is (.float FloatKind.f64 0))] [] [.inr 0, .inr 1] follows S0 rfl (by kernel_rfl) ?_ ?_
  · refine ⟨trivial, ?_⟩
    · exact mC
  intro B1 a1 W1 (S1 : Sta w 14 [] [(0, Is (.float .f64 b)), (1, Is (.float .f64 c))] _ _ _)
  refine wp_seq ?_
  refine wp_stmt_seq [.val (Is (.float .f64 b)), kF, kF, .val (Is (.float .f64 c)), kT, kT] [] [.inl 5, .inr 0, .inr 1] follows S1 rfl (by kernel_rfl) ?_ ?_
  · refine ⟨⟨⟨⟨⟨⟨trivial, ?_⟩, ?_⟩, ?_⟩, ?_⟩, ?_⟩, ?_⟩
    · exact mS 0 0
    · exact owe_fcmp rfl wA rfl ((oO 0 5).imp (fl_is hb)) ((opnd_const _).imp (fl_is (by decide))) (eq0_f h) rfl
    · exact mO 1 6
    · exact mW (wI 2 7) (oS 1 1)
    · exact owe_fcmp rfl (wI 2 7) rfl ((oO 3 8).imp (fl_is hc)) ((opnd_const _).imp (fl_is (by decide))) (eq0_t h') rfl
    · exact pF wA (oO 2 7) (oO 4 9)
  intro B2 a2 W2 (S2 : Sta w 14 [] [(10, bT), (0, Is (.float .f64 b)), (1, Is (.float .f64 c))] _ _ _)
  refine wp_cond_true (S2.bool 0 10 rfl) ?_
  refine wp_stmt_seq [.val (Is (.float FloatKind.f64 0))] [] [.inl 0] follows S2 rfl (by kernel_rfl) ?_ ?_
  · refine ⟨trivial, ?_⟩
    · exact mC
  intro B3 a3 W3 (S3 : Sta w 14 [] [(4, Is (.float FloatKind.f64 0))] _ _ _)
  refine wp_ret ?_
  refine thenR ?_
  exact end_one S3 rfl (res_tmp S3 0 4 rfl)
set_option maxHeartbeats 400000 in
theorem rt_nz (w : World) (b c : Nat) (hb : b < 18446744073709551616) (hc : c < 18446744073709551616) (h : plc b ≠ some 0) (h' : plc c ≠ some 0) :
    Calls Tryz.prog 57 #[(.float .f64 b), (.float .f64 c)] w (Gives (FLN (arP .mul b c)) w) := by
  refine calls_sta (sl := [(0, (Is (.float .f64 b))), (1, (Is (.float .f64 c)))]) Tryz.func57 rfl Tryz.ntmps57 (by simp) (args_cons rfl (is_has _) (args_cons rfl (is_has _) args_nil)) ?_
  intro a0 S0
  refine wp_stmt_seq [.val (Is (.float FloatKind.f64 0))] [] [.inr 0, .inr 1] follows S0 rfl (by kernel_rfl) ?_ ?_
  · refine ⟨trivial, ?_⟩
    · exact mC
  intro B1 a1 W1 (S1 : Sta w 14 [] [(0, Is (.float .f64 b)), (1, Is (.float .f64 c))] _ _ _)
  refine wp_seq ?_
  refine wp_stmt_seq [.val (Is (.float .f64 b)), kF, kF, .val (Is (.float .f64 c)), kF, kF] [] [.inl 5, .inr 0, .inr 1] follows S1 rfl (by kernel_rfl) ?_ ?_
  · refine ⟨⟨⟨⟨⟨⟨trivial, ?_⟩, ?_⟩, ?_⟩, ?_⟩, ?_⟩, ?_⟩
    · exact mS 0 0
    · exact owe_fcmp rfl wA rfl ((oO 0 5).imp (fl_is hb)) ((opnd_const _).imp (fl_is (by decide))) (eq0_f h) rfl
    · exact mO 1 6
    · exact mW (wI 2 7) (oS 1 1)
    · exact owe_fcmp rfl (wI 2 7) rfl ((oO 3 8).imp (fl_is hc)) ((opnd_const _).imp (fl_is (by decide))) (eq0_f h') rfl
    · exact pF wA (oO 2 7) (oO 4 9)
  intro B2 a2 W2 (S2 : Sta w 14 [] [(10, bF), (0, Is (.float .f64 b)), (1, Is (.float .f64 c))] _ _ _)
  refine wp_cond_false (S2.bool 0 10 rfl) ?_
  refine wp_skip ?_
  refine thenN ?_
  refine wp_stmt_seq [.val (Is (.float .f64 b)), .val (Is (.float .f64 c)), .val (FL (arP .mul b c)), .val (FL (arP .mul b c))] [] [.inl 3] follows S2 rfl (by kernel_rfl) ?_ ?_
  · refine ⟨⟨⟨⟨trivial, ?_⟩, ?_⟩, ?_⟩, ?_⟩
    · exact mS 1 0
    · exact mS 2 1
    · exact owe_farith (by simp) rfl wA rfl (oO 0 11) (oO 1 12) rfl
    · exact mO 2 13
  intro B3 a3 W3 (S3 : Sta w 14 [] [(4, (FL (arP .mul b c)))] _ _ _)
  refine wp_ret ?_
  exact end_one S3 rfl (res_tmp S3 0 4 rfl)

theorem h_rt {b c : Nat} (hb : b < 18446744073709551616) (hc : c < 18446744073709551616) {r : Int} (hr : tmP b c = some r) : ∀ w u v, Is (.float .f64 b) u w → Is (.float .f64 c) v w → Calls Tryz.prog 57 #[u, v] w (Gives (FLN (some r)) w) := fun w u v e e' => by
  obtain rfl : u = _ := e
  obtain rfl : v = _ := e'
  rw [← hr]
  by_cases h : plc b = some 0
  · rw [tm_1 h]; exact (rt_z1 w b c hb hc h).mono fun e w' => gives_f0
  · by_cases h' : plc c = some 0
    · rw [tm_2 h']; exact (rt_z2 w b c hb hc h h').mono fun e w' => gives_f0
    · rw [tm_3 h h']; exact rt_nz w b c hb hc h h'

theorem h_rdown {p : Option Int} : ∀ w u, FL p u w → Calls Tryz.prog 12 #[u] w (Gives (FLN (dnP p)) w) := fl1 (fun w b hb hp => by rw [← hp]; exact (rdown_f b hb).gives w)
theorem h_rup {p : Option Int} : ∀ w u, FL p u w → Calls Tryz.prog 14 #[u] w (Gives (FLN (upP p)) w) := fl1 (fun w b hb hp => by rw [← hp]; exact (rup_f b hb).gives w)
set_option maxHeartbeats 2000000 in
theorem mul_tt (w : World) (x y x1 y1 : Nat) (hx : x < 18446744073709551616) (hy : y < 18446744073709551616) (hx1 : x1 < 18446744073709551616) (hy1 : y1 < 18446744073709551616) (h : okI x y = true) (h' : okI x1 y1 = true) (p0 p1 p2 p3 : Int) (h0 : tmP x x1 = some p0) (h1 : tmP x y1 = some p1) (h2 : tmP y x1 = some p2) (h3 : tmP y y1 = some p3) :
    Calls Tryz.prog 23 #[(.agg #[.float .f64 x, .float .f64 y]), (.agg #[.float .f64 x1, .float .f64 y1])] w (Gives (TWO (IVN (loP (some (mnP (q4 p0 p1 p2 p3) 3))) (hiP (some (mxP (q4 p0 p1 p2 p3) 3)))) (IS (.int .i64 0))) w) := by
  refine calls_sta (sl := [(0, (SF [(Is (.float .f64 x)), (Is (.float .f64 y))])), (1, (SF [(Is (.float .f64 x1)), (Is (.float .f64 y1))]))]) Tryz.func23 rfl Tryz.ntmps23 (by simp) (args_cons rfl (ix_has) (args_cons rfl (ix_has) args_nil)) ?_
  intro a0 S0
  refine wp_stmt_seq [.new (.box 38 (SF [(Is (.float .f64 x)), (Is (.float .f64 y))])), .new (.box 38 (SF [(Is (.float .f64 x1)), (Is (.float .f64 y1))])), .new (.box 38 (Is (.agg #[.float .f64 0, .float .f64 0]))), .val (iV 0)] [.inl 0, .inl 1, .inl 2] [] follows S0 rfl (by kernel_rfl) ?_ ?_
  · refine ⟨⟨⟨⟨trivial, ?_⟩, ?_⟩, ?_⟩, ?_⟩
    · exact owe_box rfl wA rfl (oS 0 0) rfl (fun ρ w h => box_ival shp_iv ρ _ _ w h)
    · exact owe_box rfl wA rfl (oS 1 1) rfl (fun ρ w h => box_ival shp_iv ρ _ _ w h)
    · exact owe_new rfl wA rfl rfl (fun ρ w => alloc_ival ρ _ w)
    · exact mC
  intro B1 a1 W1 (S1 : Sta w 55 [(2, (.box 38 (SF [(Is (.float .f64 x)), (Is (.float .f64 y))]))), (3, (.box 38 (SF [(Is (.float .f64 x1)), (Is (.float .f64 y1))]))), (4, (.box 38 (Is (.agg #[.float .f64 0, .float .f64 0]))))] [] _ _ _)
  refine wp_seq ?_
  refine wp_stmt_seq [.val (SF [(Is (.float .f64 x)), (Is (.float .f64 y))]), .val (SF [(Is (.float .f64 x1)), (Is (.float .f64 y1))]), .val (iV 0), .val (iV 0)] [.inr 0, .inr 1, .inr 2] [.inl 3] follows S1 rfl (by kernel_rfl) ?_ ?_
  · refine ⟨⟨⟨⟨trivial, ?_⟩, ?_⟩, ?_⟩, ?_⟩
    · exact lod 0 wA (loads_of strct_ival shp_iv)
    · exact lod 1 wA (loads_of strct_ival shp_iv)
    · exact cc2 wA (qO 0 8 rfl) (qO 1 9 rfl) (fresh_is _) (ix2 (fun w => ivalid2_tt w x y x1 y1 hx hy hx1 hy1 h h'))
    · exact mO 2 10
  intro B2 a2 W2 (S2 : Sta w 55 [(2, (.box 38 (SF [(Is (.float .f64 x)), (Is (.float .f64 y))]))), (3, (.box 38 (SF [(Is (.float .f64 x1)), (Is (.float .f64 y1))]))), (4, (.box 38 (Is (.agg #[.float .f64 0, .float .f64 0]))))] [(6, iV 0)] _ _ _)
  refine wp_stmt_seq [.val (iV 0), kF] [.inr 0, .inr 1, .inr 2] [.inl 1, .inr 0] follows S2 rfl (by kernel_rfl) ?_ ?_
  · refine ⟨⟨trivial, ?_⟩, ?_⟩
    · exact mS 0 6
    · exact b_neq_errno_f wA (oO 0 11) (opnd_const _) (h := by decide)
  intro B3 a3 W3 (S3 : Sta w 55 [(2, (.box 38 (SF [(Is (.float .f64 x)), (Is (.float .f64 y))]))), (3, (.box 38 (SF [(Is (.float .f64 x1)), (Is (.float .f64 y1))]))), (4, (.box 38 (Is (.agg #[.float .f64 0, .float .f64 0]))))] [(12, bF), (6, iV 0)] _ _ _)
  refine wp_cond_false (S3.bool 0 12 rfl) ?_
  refine wp_skip ?_
  refine thenN ?_
  refine wp_stmt_seq [.val (Part a3 2 0), .val (Is (.float .f64 x)), .val (Part a3 3 0), .val (Is (.float .f64 x1)), .val (FL (some p0)), .val (Part a3 2 0), .val (Is (.float .f64 x)), .val (Part a3 3 1), .val (Is (.float .f64 y1)), .val (FL (some p1)), .val (Part a3 2 1), .val (Is (.float .f64 y)), .val (Part a3 3 0), .val (Is (.float .f64 x1)), .val (FL (some p2)), .val (Part a3 2 1), .val (Is (.float .f64 y)), .val (Part a3 3 1), .val (Is (.float .f64 y1)), .val (FL (some p3)), .val (SF [(FL (some p0)), (FL (some p1)), (FL (some p2)), (FL (some p3))]), .new (.box 81 (Is (.agg #[.float .f64 0, .float .f64 0, .float .f64 0, .float .f64 0]))), .put (.inr 21) (.box 81 (SF [(FL (some p0)), (FL (some p1)), (FL (some p2)), (FL (some p3))]))] [.inr 0, .inr 1, .inr 2, .inl 21] [] follows S3 rfl (by kernel_rfl) ?_ ?_
  · repeat' refine And.intro ?_ ?_
    · trivial
    · exact owe_part rfl wA rfl (k := 0) rfl (by kernel_rfl) rfl (fun ρ w b h => part_ival0 ρ _ _ w b 0 h)
    · exact owe_pload rfl wA rfl (oO 0 15) (k := 0) rfl (by kernel_rfl) rfl (fun ρ w b u h1 h2 h3 => ploadI rfl load1_f64 ρ _ _ w b u h1 h2 h3)
    · exact owe_part rfl wA rfl (k := 1) rfl (by kernel_rfl) rfl (fun ρ w b h => part_ival0 ρ _ _ w b 0 h)
    · exact owe_pload rfl wA rfl (oO 2 17) (k := 1) rfl (by kernel_rfl) rfl (fun ρ w b u h1 h2 h3 => ploadI rfl load1_f64 ρ _ _ w b u h1 h2 h3)
    · exact cc2 wA (qO 1 16 rfl) (qO 3 18 rfl) (fresh_fl _) (h_it hx hx1 h0)
    · exact owe_part rfl wA rfl (k := 0) rfl (by kernel_rfl) rfl (fun ρ w b h => part_ival0 ρ _ _ w b 0 h)
    · exact owe_pload rfl wA rfl (oO 5 20) (k := 0) rfl (by kernel_rfl) rfl (fun ρ w b u h1 h2 h3 => ploadI rfl load1_f64 ρ _ _ w b u h1 h2 h3)
    · exact owe_part rfl wA rfl (k := 1) rfl (by kernel_rfl) rfl (fun ρ w b h => part_ival1 ρ _ _ w b 0 h)
    · exact owe_pload rfl wA rfl (oO 7 22) (k := 1) rfl (by kernel_rfl) rfl (fun ρ w b u h1 h2 h3 => ploadI rfl load1_f64 ρ _ _ w b u h1 h2 h3)
    · exact cc2 wA (qO 6 21 rfl) (qO 8 23 rfl) (fresh_fl _) (h_it hx hy1 h1)
    · exact owe_part rfl wA rfl (k := 0) rfl (by kernel_rfl) rfl (fun ρ w b h => part_ival1 ρ _ _ w b 0 h)
    · exact owe_pload rfl wA rfl (oO 10 25) (k := 0) rfl (by kernel_rfl) rfl (fun ρ w b u h1 h2 h3 => ploadI rfl load1_f64 ρ _ _ w b u h1 h2 h3)
    · exact owe_part rfl wA rfl (k := 1) rfl (by kernel_rfl) rfl (fun ρ w b h => part_ival0 ρ _ _ w b 0 h)
    · exact owe_pload rfl wA rfl (oO 12 27) (k := 1) rfl (by kernel_rfl) rfl (fun ρ w b u h1 h2 h3 => ploadI rfl load1_f64 ρ _ _ w b u h1 h2 h3)
    · exact cc2 wA (qO 11 26 rfl) (qO 13 28 rfl) (fresh_fl _) (h_it hy hx1 h2)
    · exact owe_part rfl wA rfl (k := 0) rfl (by kernel_rfl) rfl (fun ρ w b h => part_ival1 ρ _ _ w b 0 h)
    · exact owe_pload rfl wA rfl (oO 15 30) (k := 0) rfl (by kernel_rfl) rfl (fun ρ w b u h1 h2 h3 => ploadI rfl load1_f64 ρ _ _ w b u h1 h2 h3)
    · exact owe_part rfl wA rfl (k := 1) rfl (by kernel_rfl) rfl (fun ρ w b h => part_ival1 ρ _ _ w b 0 h)
    · exact owe_pload rfl wA rfl (oO 17 32) (k := 1) rfl (by kernel_rfl) rfl (fun ρ w b u h1 h2 h3 => ploadI rfl load1_f64 ρ _ _ w b u h1 h2 h3)
    · exact cc2 wA (qO 16 31 rfl) (qO 18 33 rfl) (fresh_fl _) (h_it hy hy1 h3)
    · exact owe_build_f4 rfl wA rfl (oO 4 19) (oO 9 24) (oO 14 29) (oO 19 34) flt_fl flt_fl flt_fl flt_fl rfl
    · exact owe_new rfl wA rfl rfl (fun ρ w => alloc_f4 ρ _ w)
    · exact owe_put 21 rfl wA rfl (by kernel_rfl) rfl (oO 20 35) (stores_of strct_f4 shp_f40 shp_f4) rfl
  intro B4 a4 W4 (S4 : Sta w 55 [(2, (.box 38 (SF [(Is (.float .f64 x)), (Is (.float .f64 y))]))), (3, (.box 38 (SF [(Is (.float .f64 x1)), (Is (.float .f64 y1))]))), (4, (.box 38 (Is (.agg #[.float .f64 0, .float .f64 0])))), (7, (.box 81 (SF [(FL (some p0)), (FL (some p1)), (FL (some p2)), (FL (some p3))])))] [] _ _ _)
  refine wp_stmt_seq [.val (Part a4 7 0), .val (FL (some p0)), .val (Part a4 7 1), .val (FL (some p1)), .val (Part a4 7 2), .val (FL (some p2)), .val (Part a4 7 3), .val (FL (some p3)), .val (FL (some (mnP (q4 p0 p1 p2 p3) 3))), .val (Part a4 7 0), .val (FL (some p0)), .val (Part a4 7 1), .val (FL (some p1)), .val (Part a4 7 2), .val (FL (some p2)), .val (Part a4 7 3), .val (FL (some p3)), .val (FL (some (mxP (q4 p0 p1 p2 p3) 3))), .val (SF [(FL (loP (some (mnP (q4 p0 p1 p2 p3) 3)))), (FL (hiP (some (mxP (q4 p0 p1 p2 p3) 3))))]), .put (.inl 4) (.box 38 (SF [(FL (loP (some (mnP (q4 p0 p1 p2 p3) 3)))), (FL (hiP (some (mxP (q4 p0 p1 p2 p3) 3))))])), .val (iV 0)] [.inr 0, .inr 1, .inr 2, .inr 3] [.inl 20] follows S4 rfl (by kernel_rfl) ?_ ?_
  · repeat' refine And.intro ?_ ?_
    · trivial
    · exact owe_ipart (f := 0) rfl wA rfl (opnd_const _) (by decide) (k := 3) rfl (by kernel_rfl) rfl
    · exact owe_pload rfl wA rfl (oO 0 36) (k := 3) rfl (by kernel_rfl) rfl (fun ρ w b u h1 h2 h3 => ploadI rfl load1_f64 ρ _ _ w b u h1 h2 h3)
    · exact owe_ipart (f := 1) rfl wA rfl (opnd_const _) (by decide) (k := 3) rfl (by kernel_rfl) rfl
    · exact owe_pload rfl wA rfl (oO 2 38) (k := 3) rfl (by kernel_rfl) rfl (fun ρ w b u h1 h2 h3 => ploadI rfl load1_f64 ρ _ _ w b u h1 h2 h3)
    · exact owe_ipart (f := 2) rfl wA rfl (opnd_const _) (by decide) (k := 3) rfl (by kernel_rfl) rfl
    · exact owe_pload rfl wA rfl (oO 4 40) (k := 3) rfl (by kernel_rfl) rfl (fun ρ w b u h1 h2 h3 => ploadI rfl load1_f64 ρ _ _ w b u h1 h2 h3)
    · exact owe_ipart (f := 3) rfl wA rfl (opnd_const _) (by decide) (k := 3) rfl (by kernel_rfl) rfl
    · exact owe_pload rfl wA rfl (oO 6 42) (k := 3) rfl (by kernel_rfl) rfl (fun ρ w b u h1 h2 h3 => ploadI rfl load1_f64 ρ _ _ w b u h1 h2 h3)
    · exact owe_fmin4 rfl wA rfl (oO 1 37) (oO 3 39) (oO 5 41) (oO 7 43) rfl
    · exact owe_ipart (f := 0) rfl wA rfl (opnd_const _) (by decide) (k := 3) rfl (by kernel_rfl) rfl
    · exact owe_pload rfl wA rfl (oO 9 45) (k := 3) rfl (by kernel_rfl) rfl (fun ρ w b u h1 h2 h3 => ploadI rfl load1_f64 ρ _ _ w b u h1 h2 h3)
    · exact owe_ipart (f := 1) rfl wA rfl (opnd_const _) (by decide) (k := 3) rfl (by kernel_rfl) rfl
    · exact owe_pload rfl wA rfl (oO 11 47) (k := 3) rfl (by kernel_rfl) rfl (fun ρ w b u h1 h2 h3 => ploadI rfl load1_f64 ρ _ _ w b u h1 h2 h3)
    · exact owe_ipart (f := 2) rfl wA rfl (opnd_const _) (by decide) (k := 3) rfl (by kernel_rfl) rfl
    · exact owe_pload rfl wA rfl (oO 13 49) (k := 3) rfl (by kernel_rfl) rfl (fun ρ w b u h1 h2 h3 => ploadI rfl load1_f64 ρ _ _ w b u h1 h2 h3)
    · exact owe_ipart (f := 3) rfl wA rfl (opnd_const _) (by decide) (k := 3) rfl (by kernel_rfl) rfl
    · exact owe_pload rfl wA rfl (oO 15 51) (k := 3) rfl (by kernel_rfl) rfl (fun ρ w b u h1 h2 h3 => ploadI rfl load1_f64 ρ _ _ w b u h1 h2 h3)
    · exact owe_fmax4 rfl wA rfl (oO 10 46) (oO 12 48) (oO 14 50) (oO 16 52) rfl
    · exact cc2 wA (qO 8 44 rfl) (qO 17 53 rfl) (fresh_iv _ _) h_outward
    · exact owe_set rfl wA rfl (k := 2) rfl (by kernel_rfl) (oO 18 54) (stores_of strct_ival shp_i0 shp_iv) rfl
    · exact mC
  intro B5 a5 W5 (S5 : Sta w 55 [(2, (.box 38 (SF [(Is (.float .f64 x)), (Is (.float .f64 y))]))), (3, (.box 38 (SF [(Is (.float .f64 x1)), (Is (.float .f64 y1))]))), (4, (.box 38 (SF [(FL (loP (some (mnP (q4 p0 p1 p2 p3) 3)))), (FL (hiP (some (mxP (q4 p0 p1 p2 p3) 3))))]))), (7, (.box 81 (SF [(FL (some p0)), (FL (some p1)), (FL (some p2)), (FL (some p3))])))] [(5, iV 0)] _ _ _)
  refine wp_ret ?_
  exact end_two S5 rfl (res_cell S5 2 4 rfl strct_ival shp_iv) (res_tmp S5 0 5 rfl)
set_option maxHeartbeats 400000 in
theorem mul_tf (w : World) (x y x1 y1 : Nat) (hx : x < 18446744073709551616) (hy : y < 18446744073709551616) (hx1 : x1 < 18446744073709551616) (hy1 : y1 < 18446744073709551616) (h : okI x y = true) (h' : okI x1 y1 = false) :
    Calls Tryz.prog 23 #[(.agg #[.float .f64 x, .float .f64 y]), (.agg #[.float .f64 x1, .float .f64 y1])] w (Gives (TWO (fun _ => SF [Is (.float .f64 0), Is (.float .f64 0)]) (IS (.int .i64 90))) w) := by
  refine calls_sta (sl := [(0, (SF [(Is (.float .f64 x)), (Is (.float .f64 y))])), (1, (SF [(Is (.float .f64 x1)), (Is (.float .f64 y1))]))]) Tryz.func23 rfl Tryz.ntmps23 (by simp) (args_cons rfl (ix_has) (args_cons rfl (ix_has) args_nil)) ?_
  intro a0 S0
  refine wp_stmt_seq [.new (.box 38 (SF [(Is (.float .f64 x)), (Is (.float .f64 y))])), .new (.box 38 (SF [(Is (.float .f64 x1)), (Is (.float .f64 y1))])), .new (.box 38 (Is (.agg #[.float .f64 0, .float .f64 0]))), .val (iV 0)] [.inl 0, .inl 1, .inl 2] [] follows S0 rfl (by kernel_rfl) ?_ ?_
  · refine ⟨⟨⟨⟨trivial, ?_⟩, ?_⟩, ?_⟩, ?_⟩
    · exact owe_box rfl wA rfl (oS 0 0) rfl (fun ρ w h => box_ival shp_iv ρ _ _ w h)
    · exact owe_box rfl wA rfl (oS 1 1) rfl (fun ρ w h => box_ival shp_iv ρ _ _ w h)
    · exact owe_new rfl wA rfl rfl (fun ρ w => alloc_ival ρ _ w)
    · exact mC
  intro B1 a1 W1 (S1 : Sta w 55 [(2, (.box 38 (SF [(Is (.float .f64 x)), (Is (.float .f64 y))]))), (3, (.box 38 (SF [(Is (.float .f64 x1)), (Is (.float .f64 y1))]))), (4, (.box 38 (Is (.agg #[.float .f64 0, .float .f64 0]))))] [] _ _ _)
  refine wp_seq ?_
  refine wp_stmt_seq [.val (SF [(Is (.float .f64 x)), (Is (.float .f64 y))]), .val (SF [(Is (.float .f64 x1)), (Is (.float .f64 y1))]), .val (iV 90), .val (iV 90)] [.inr 0, .inr 1, .inr 2] [.inl 3] follows S1 rfl (by kernel_rfl) ?_ ?_
  · refine ⟨⟨⟨⟨trivial, ?_⟩, ?_⟩, ?_⟩, ?_⟩
    · exact lod 0 wA (loads_of strct_ival shp_iv)
    · exact lod 1 wA (loads_of strct_ival shp_iv)
    · exact cc2 wA (qO 0 8 rfl) (qO 1 9 rfl) (fresh_is _) (ix2 (fun w => ivalid2_tf w x y x1 y1 hx hy hx1 hy1 h h'))
    · exact mO 2 10
  intro B2 a2 W2 (S2 : Sta w 55 [(2, (.box 38 (SF [(Is (.float .f64 x)), (Is (.float .f64 y))]))), (3, (.box 38 (SF [(Is (.float .f64 x1)), (Is (.float .f64 y1))]))), (4, (.box 38 (Is (.agg #[.float .f64 0, .float .f64 0]))))] [(6, iV 90)] _ _ _)
  refine wp_stmt_seq [.val (iV 90), kT] [.inr 0, .inr 1, .inr 2] [.inl 1, .inr 0] follows S2 rfl (by kernel_rfl) ?_ ?_
  · refine ⟨⟨trivial, ?_⟩, ?_⟩
    · exact mS 0 6
    · exact b_neq_errno_t wA (oO 0 11) (opnd_const _) (h := by decide)
  intro B3 a3 W3 (S3 : Sta w 55 [(2, (.box 38 (SF [(Is (.float .f64 x)), (Is (.float .f64 y))]))), (3, (.box 38 (SF [(Is (.float .f64 x1)), (Is (.float .f64 y1))]))), (4, (.box 38 (Is (.agg #[.float .f64 0, .float .f64 0]))))] [(12, bT), (6, iV 90)] _ _ _)
  refine wp_cond_true (S3.bool 0 12 rfl) ?_
  refine wp_stmt_seq [.val (SF [(Is (.float .f64 0)), (Is (.float .f64 0))]), .val (iV 90), .put (.inl 4) (.box 38 (SF [(Is (.float .f64 0)), (Is (.float .f64 0))])), .val (iV 90)] [.inr 0, .inr 1, .inr 2] [.inl 3] follows S3 rfl (by kernel_rfl) ?_ ?_
  · refine ⟨⟨⟨⟨trivial, ?_⟩, ?_⟩, ?_⟩, ?_⟩
    · exact owe_build_iv0 rfl wA rfl rfl
    · exact mS 1 6
    · exact owe_set rfl wA rfl (k := 2) rfl (by kernel_rfl) (oO 0 13) (stores_of strct_ival shp_i0 shp_iv) rfl
    · exact mO 1 14
  intro B4 a4 W4 (S4 : Sta w 55 [(2, (.box 38 (SF [(Is (.float .f64 x)), (Is (.float .f64 y))]))), (3, (.box 38 (SF [(Is (.float .f64 x1)), (Is (.float .f64 y1))]))), (4, (.box 38 (SF [(Is (.float .f64 0)), (Is (.float .f64 0))])))] [(5, iV 90)] _ _ _)
  refine wp_ret ?_
  refine thenR ?_
  exact end_two S4 rfl (res_cell S4 2 4 rfl strct_ival shp_iv) (res_tmp S4 0 5 rfl)
set_option maxHeartbeats 400000 in
theorem mul_f (w : World) (x y x1 y1 : Nat) (hx : x < 18446744073709551616) (hy : y < 18446744073709551616) (hx1 : x1 < 18446744073709551616) (hy1 : y1 < 18446744073709551616) (h : okI x y = false) :
    Calls Tryz.prog 23 #[(.agg #[.float .f64 x, .float .f64 y]), (.agg #[.float .f64 x1, .float .f64 y1])] w (Gives (TWO (fun _ => SF [Is (.float .f64 0), Is (.float .f64 0)]) (IS (.int .i64 90))) w) := by
  refine calls_sta (sl := [(0, (SF [(Is (.float .f64 x)), (Is (.float .f64 y))])), (1, (SF [(Is (.float .f64 x1)), (Is (.float .f64 y1))]))]) Tryz.func23 rfl Tryz.ntmps23 (by simp) (args_cons rfl (ix_has) (args_cons rfl (ix_has) args_nil)) ?_
  intro a0 S0
  refine wp_stmt_seq [.new (.box 38 (SF [(Is (.float .f64 x)), (Is (.float .f64 y))])), .new (.box 38 (SF [(Is (.float .f64 x1)), (Is (.float .f64 y1))])), .new (.box 38 (Is (.agg #[.float .f64 0, .float .f64 0]))), .val (iV 0)] [.inl 0, .inl 1, .inl 2] [] follows S0 rfl (by kernel_rfl) ?_ ?_
  · refine ⟨⟨⟨⟨trivial, ?_⟩, ?_⟩, ?_⟩, ?_⟩
    · exact owe_box rfl wA rfl (oS 0 0) rfl (fun ρ w h => box_ival shp_iv ρ _ _ w h)
    · exact owe_box rfl wA rfl (oS 1 1) rfl (fun ρ w h => box_ival shp_iv ρ _ _ w h)
    · exact owe_new rfl wA rfl rfl (fun ρ w => alloc_ival ρ _ w)
    · exact mC
  intro B1 a1 W1 (S1 : Sta w 55 [(2, (.box 38 (SF [(Is (.float .f64 x)), (Is (.float .f64 y))]))), (3, (.box 38 (SF [(Is (.float .f64 x1)), (Is (.float .f64 y1))]))), (4, (.box 38 (Is (.agg #[.float .f64 0, .float .f64 0]))))] [] _ _ _)
  refine wp_seq ?_
  refine wp_stmt_seq [.val (SF [(Is (.float .f64 x)), (Is (.float .f64 y))]), .val (SF [(Is (.float .f64 x1)), (Is (.float .f64 y1))]), .val (iV 90), .val (iV 90)] [.inr 0, .inr 1, .inr 2] [.inl 3] follows S1 rfl (by kernel_rfl) ?_ ?_
  · refine ⟨⟨⟨⟨trivial, ?_⟩, ?_⟩, ?_⟩, ?_⟩
    · exact lod 0 wA (loads_of strct_ival shp_iv)
    · exact lod 1 wA (loads_of strct_ival shp_iv)
    · exact cc2 wA (qO 0 8 rfl) (qO 1 9 rfl) (fresh_is _) (ix2 (fun w => ivalid2_f w x y x1 y1 hx hy hx1 hy1 h))
    · exact mO 2 10
  intro B2 a2 W2 (S2 : Sta w 55 [(2, (.box 38 (SF [(Is (.float .f64 x)), (Is (.float .f64 y))]))), (3, (.box 38 (SF [(Is (.float .f64 x1)), (Is (.float .f64 y1))]))), (4, (.box 38 (Is (.agg #[.float .f64 0, .float .f64 0]))))] [(6, iV 90)] _ _ _)
  refine wp_stmt_seq [.val (iV 90), kT] [.inr 0, .inr 1, .inr 2] [.inl 1, .inr 0] follows S2 rfl (by kernel_rfl) ?_ ?_
  · refine ⟨⟨trivial, ?_⟩, ?_⟩
    · exact mS 0 6
    · exact b_neq_errno_t wA (oO 0 11) (opnd_const _) (h := by decide)
  intro B3 a3 W3 (S3 : Sta w 55 [(2, (.box 38 (SF [(Is (.float .f64 x)), (Is (.float .f64 y))]))), (3, (.box 38 (SF [(Is (.float .f64 x1)), (Is (.float .f64 y1))]))), (4, (.box 38 (Is (.agg #[.float .f64 0, .float .f64 0]))))] [(12, bT), (6, iV 90)] _ _ _)
  refine wp_cond_true (S3.bool 0 12 rfl) ?_
  refine wp_stmt_seq [.val (SF [(Is (.float .f64 0)), (Is (.float .f64 0))]), .val (iV 90), .put (.inl 4) (.box 38 (SF [(Is (.float .f64 0)), (Is (.float .f64 0))])), .val (iV 90)] [.inr 0, .inr 1, .inr 2] [.inl 3] follows S3 rfl (by kernel_rfl) ?_ ?_
  · refine ⟨⟨⟨⟨trivial, ?_⟩, ?_⟩, ?_⟩, ?_⟩
    · exact owe_build_iv0 rfl wA rfl rfl
    · exact mS 1 6
    · exact owe_set rfl wA rfl (k := 2) rfl (by kernel_rfl) (oO 0 13) (stores_of strct_ival shp_i0 shp_iv) rfl
    · exact mO 1 14
  intro B4 a4 W4 (S4 : Sta w 55 [(2, (.box 38 (SF [(Is (.float .f64 x)), (Is (.float .f64 y))]))), (3, (.box 38 (SF [(Is (.float .f64 x1)), (Is (.float .f64 y1))]))), (4, (.box 38 (SF [(Is (.float .f64 0)), (Is (.float .f64 0))])))] [(5, iV 90)] _ _ _)
  refine wp_ret ?_
  refine thenR ?_
  exact end_two S4 rfl (res_cell S4 2 4 rfl strct_ival shp_iv) (res_tmp S4 0 5 rfl)
set_option maxHeartbeats 2000000 in
theorem rmul_w (w : World) (x y x1 y1 : Nat) (hx : x < 18446744073709551616) (hy : y < 18446744073709551616) (hx1 : x1 < 18446744073709551616) (hy1 : y1 < 18446744073709551616) (p0 p1 p2 p3 : Int) (h0 : tmP x x1 = some p0) (h1 : tmP x y1 = some p1) (h2 : tmP y x1 = some p2) (h3 : tmP y y1 = some p3) :
    Calls Tryz.prog 26 #[(.agg #[.float .f64 x, .float .f64 y]), (.agg #[.float .f64 x1, .float .f64 y1])] w (Gives (IVN (dnP (some (mnP (q4 p0 p1 p2 p3) 3))) (upP (some (mxP (q4 p0 p1 p2 p3) 3)))) w) := by
  refine calls_sta (sl := [(0, (SF [(Is (.float .f64 x)), (Is (.float .f64 y))])), (1, (SF [(Is (.float .f64 x1)), (Is (.float .f64 y1))]))]) Tryz.func26 rfl Tryz.ntmps26 (by simp) (args_cons rfl (ix_has) (args_cons rfl (ix_has) args_nil)) ?_
  intro a0 S0
  refine wp_stmt_seq [.new (.box 38 (SF [(Is (.float .f64 x)), (Is (.float .f64 y))])), .new (.box 38 (SF [(Is (.float .f64 x1)), (Is (.float .f64 y1))])), .new (.box 38 (Is (.agg #[.float .f64 0, .float .f64 0])))] [.inl 0, .inl 1, .inl 2] [] follows S0 rfl (by kernel_rfl) ?_ ?_
  · refine ⟨⟨⟨trivial, ?_⟩, ?_⟩, ?_⟩
    · exact owe_box rfl wA rfl (oS 0 0) rfl (fun ρ w h => box_ival shp_iv ρ _ _ w h)
    · exact owe_box rfl wA rfl (oS 1 1) rfl (fun ρ w h => box_ival shp_iv ρ _ _ w h)
    · exact owe_new rfl wA rfl rfl (fun ρ w => alloc_ival ρ _ w)
  intro B1 a1 W1 (S1 : Sta w 65 [(2, (.box 38 (SF [(Is (.float .f64 x)), (Is (.float .f64 y))]))), (3, (.box 38 (SF [(Is (.float .f64 x1)), (Is (.float .f64 y1))]))), (4, (.box 38 (Is (.agg #[.float .f64 0, .float .f64 0]))))] [] _ _ _)
  refine wp_stmt_seq [.val (Part a1 2 0), .val (Is (.float .f64 x)), .val (Part a1 3 0), .val (Is (.float .f64 x1)), .val (FL (some p0)), .val (Part a1 2 0), .val (Is (.float .f64 x)), .val (Part a1 3 1), .val (Is (.float .f64 y1)), .val (FL (some p1)), .val (Part a1 2 1), .val (Is (.float .f64 y)), .val (Part a1 3 0), .val (Is (.float .f64 x1)), .val (FL (some p2)), .val (Part a1 2 1), .val (Is (.float .f64 y)), .val (Part a1 3 1), .val (Is (.float .f64 y1)), .val (FL (some p3)), .val (F4 (q4 p0 p1 p2 p3)), .val (F4 (q4 p0 p1 p2 p3))] [.inr 0, .inr 1, .inr 2] [.inl 21] follows S1 rfl (by kernel_rfl) ?_ ?_
  · repeat' refine And.intro ?_ ?_
    · trivial
    · exact owe_part rfl wA rfl (k := 0) rfl (by kernel_rfl) rfl (fun ρ w b h => part_ival0 ρ _ _ w b 0 h)
    · exact owe_pload rfl wA rfl (oO 0 9) (k := 0) rfl (by kernel_rfl) rfl (fun ρ w b u h1 h2 h3 => ploadI rfl load1_f64 ρ _ _ w b u h1 h2 h3)
    · exact owe_part rfl wA rfl (k := 1) rfl (by kernel_rfl) rfl (fun ρ w b h => part_ival0 ρ _ _ w b 0 h)
    · exact owe_pload rfl wA rfl (oO 2 11) (k := 1) rfl (by kernel_rfl) rfl (fun ρ w b u h1 h2 h3 => ploadI rfl load1_f64 ρ _ _ w b u h1 h2 h3)
    · exact cc2 wA (qO 1 10 rfl) (qO 3 12 rfl) (fresh_fl _) (h_rt hx hx1 h0)
    · exact owe_part rfl wA rfl (k := 0) rfl (by kernel_rfl) rfl (fun ρ w b h => part_ival0 ρ _ _ w b 0 h)
    · exact owe_pload rfl wA rfl (oO 5 14) (k := 0) rfl (by kernel_rfl) rfl (fun ρ w b u h1 h2 h3 => ploadI rfl load1_f64 ρ _ _ w b u h1 h2 h3)
    · exact owe_part rfl wA rfl (k := 1) rfl (by kernel_rfl) rfl (fun ρ w b h => part_ival1 ρ _ _ w b 0 h)
    · exact owe_pload rfl wA rfl (oO 7 16) (k := 1) rfl (by kernel_rfl) rfl (fun ρ w b u h1 h2 h3 => ploadI rfl load1_f64 ρ _ _ w b u h1 h2 h3)
    · exact cc2 wA (qO 6 15 rfl) (qO 8 17 rfl) (fresh_fl _) (h_rt hx hy1 h1)
    · exact owe_part rfl wA rfl (k := 0) rfl (by kernel_rfl) rfl (fun ρ w b h => part_ival1 ρ _ _ w b 0 h)
    · exact owe_pload rfl wA rfl (oO 10 19) (k := 0) rfl (by kernel_rfl) rfl (fun ρ w b u h1 h2 h3 => ploadI rfl load1_f64 ρ _ _ w b u h1 h2 h3)
    · exact owe_part rfl wA rfl (k := 1) rfl (by kernel_rfl) rfl (fun ρ w b h => part_ival0 ρ _ _ w b 0 h)
    · exact owe_pload rfl wA rfl (oO 12 21) (k := 1) rfl (by kernel_rfl) rfl (fun ρ w b u h1 h2 h3 => ploadI rfl load1_f64 ρ _ _ w b u h1 h2 h3)
    · exact cc2 wA (qO 11 20 rfl) (qO 13 22 rfl) (fresh_fl _) (h_rt hy hx1 h2)
    · exact owe_part rfl wA rfl (k := 0) rfl (by kernel_rfl) rfl (fun ρ w b h => part_ival1 ρ _ _ w b 0 h)
    · exact owe_pload rfl wA rfl (oO 15 24) (k := 0) rfl (by kernel_rfl) rfl (fun ρ w b u h1 h2 h3 => ploadI rfl load1_f64 ρ _ _ w b u h1 h2 h3)
    · exact owe_part rfl wA rfl (k := 1) rfl (by kernel_rfl) rfl (fun ρ w b h => part_ival1 ρ _ _ w b 0 h)
    · exact owe_pload rfl wA rfl (oO 17 26) (k := 1) rfl (by kernel_rfl) rfl (fun ρ w b u h1 h2 h3 => ploadI rfl load1_f64 ρ _ _ w b u h1 h2 h3)
    · exact cc2 wA (qO 16 25 rfl) (qO 18 27 rfl) (fresh_fl _) (h_rt hy hy1 h3)
    · exact owe_f4 rfl wA rfl (oO 4 13) (oO 9 18) (oO 14 23) (oO 19 28) rfl
    · exact mO 20 29
  intro B2 a2 W2 (S2 : Sta w 65 [(2, (.box 38 (SF [(Is (.float .f64 x)), (Is (.float .f64 y))]))), (3, (.box 38 (SF [(Is (.float .f64 x1)), (Is (.float .f64 y1))]))), (4, (.box 38 (Is (.agg #[.float .f64 0, .float .f64 0]))))] [(5, (F4 (q4 p0 p1 p2 p3)))] _ _ _)
  refine wp_stmt_seq [.val (F4 (q4 p0 p1 p2 p3)), .val (F4at ((q4 p0 p1 p2 p3) 0)), .val (FL (some ((q4 p0 p1 p2 p3) 0))), .val (FL (some ((q4 p0 p1 p2 p3) 0)))] [.inr 0, .inr 1, .inr 2] [.inl 3, .inr 0] follows S2 rfl (by kernel_rfl) ?_ ?_
  · refine ⟨⟨⟨⟨trivial, ?_⟩, ?_⟩, ?_⟩, ?_⟩
    · exact mS 0 5
    · exact owe_f4idx (k := 0) rfl wA rfl (oO 0 30) (opnd_const _) (by decide) rfl
    · exact owe_f4load rfl wA rfl (oO 1 31) rfl
    · exact mO 2 32
  intro B3 a3 W3 (S3 : Sta w 65 [(2, (.box 38 (SF [(Is (.float .f64 x)), (Is (.float .f64 y))]))), (3, (.box 38 (SF [(Is (.float .f64 x1)), (Is (.float .f64 y1))]))), (4, (.box 38 (Is (.agg #[.float .f64 0, .float .f64 0]))))] [(6, (FL (some ((q4 p0 p1 p2 p3) 0)))), (5, (F4 (q4 p0 p1 p2 p3)))] _ _ _)
  refine wp_stmt_seq [.val (F4 (q4 p0 p1 p2 p3)), .val (F4at ((q4 p0 p1 p2 p3) 0)), .val (FL (some ((q4 p0 p1 p2 p3) 0))), .val (FL (some ((q4 p0 p1 p2 p3) 0)))] [.inr 0, .inr 1, .inr 2] [.inl 3, .inr 0, .inr 1] follows S3 rfl (by kernel_rfl) ?_ ?_
  · refine ⟨⟨⟨⟨trivial, ?_⟩, ?_⟩, ?_⟩, ?_⟩
    · exact mS 1 5
    · exact owe_f4idx (k := 0) rfl wA rfl (oO 0 33) (opnd_const _) (by decide) rfl
    · exact owe_f4load rfl wA rfl (oO 1 34) rfl
    · exact mO 2 35
  intro B4 a4 W4 (S4 : Sta w 65 [(2, (.box 38 (SF [(Is (.float .f64 x)), (Is (.float .f64 y))]))), (3, (.box 38 (SF [(Is (.float .f64 x1)), (Is (.float .f64 y1))]))), (4, (.box 38 (Is (.agg #[.float .f64 0, .float .f64 0]))))] [(7, (FL (some ((q4 p0 p1 p2 p3) 0)))), (6, (FL (some ((q4 p0 p1 p2 p3) 0)))), (5, (F4 (q4 p0 p1 p2 p3)))] _ _ _)
  refine wp_seq ?_
  refine wp_stmt_seq [.val (iV 1)] [.inr 0, .inr 1, .inr 2] [.inl 0, .inr 0, .inr 1, .inr 2] follows S4 rfl (by kernel_rfl) ?_ ?_
  · refine ⟨trivial, ?_⟩
    · exact mC
  intro B5 a5 W5 (S5 : Sta w 65 [(2, (.box 38 (SF [(Is (.float .f64 x)), (Is (.float .f64 y))]))), (3, (.box 38 (SF [(Is (.float .f64 x1)), (Is (.float .f64 y1))]))), (4, (.box 38 (Is (.agg #[.float .f64 0, .float .f64 0]))))] [(8, iV 1), (7, (FL (some ((q4 p0 p1 p2 p3) 0)))), (6, (FL (some ((q4 p0 p1 p2 p3) 0)))), (5, (F4 (q4 p0 p1 p2 p3)))] _ _ _)
  refine wp_block ?_
  refine wp_loop_ghost (fun (g : Nat × Int × Int) a W => (g.1 ≤ 3 ∧ g.2.1 = mnP (q4 p0 p1 p2 p3) g.1 ∧ g.2.2 = mxP (q4 p0 p1 p2 p3) g.1) ∧ ∃ Bq, Sta w 65 [(2, (.box 38 (SF [(Is (.float .f64 x)), (Is (.float .f64 y))]))), (3, (.box 38 (SF [(Is (.float .f64 x1)), (Is (.float .f64 y1))]))), (4, (.box 38 (Is (.agg #[.float .f64 0, .float .f64 0]))))] [(8, iV ((g.1 + 1 : Nat) : Int)), (7, (FL (some g.2.2))), (6, (FL (some g.2.1))), (5, (F4 (q4 p0 p1 p2 p3)))] Bq a W) (fun (g : Nat × Int × Int) => 3 - g.1) ?_ (0, q4 p0 p1 p2 p3 0, q4 p0 p1 p2 p3 0) ⟨⟨Nat.zero_le _, rfl, rfl⟩, B5, S5.sub [0, 1, 2] [0, 1, 2, 3]⟩
  rintro g a6 W6 ⟨hcond, B6, S6⟩
  rcases four_ways (q4 p0 p1 p2 p3) g with ⟨k0, k1, k2⟩ | ⟨k0, k1, k2⟩ | ⟨k0, k1, k2⟩ | ⟨k0, k1, k2⟩ | k0
  · skip
    refine wp_seq ?_
    refine wp_stmt_seq [.val (iV ((g.1 + 1 : Nat) : Int)), kT] [.inr 0, .inr 1, .inr 2] [.inl 1, .inr 0, .inr 1, .inr 2, .inr 3] follows S6 rfl (by kernel_rfl) ?_ ?_
    · refine ⟨⟨trivial, ?_⟩, ?_⟩
      · exact mS 0 8
      · exact b_lss_int_t wA (oO 0 36) (opnd_const _)
    intro B7 a7 W7 (S7 : Sta w 65 [(2, (.box 38 (SF [(Is (.float .f64 x)), (Is (.float .f64 y))]))), (3, (.box 38 (SF [(Is (.float .f64 x1)), (Is (.float .f64 y1))]))), (4, (.box 38 (Is (.agg #[.float .f64 0, .float .f64 0]))))] [(37, bT), (8, iV ((g.1 + 1 : Nat) : Int)), (7, (FL (some g.2.2))), (6, (FL (some g.2.1))), (5, (F4 (q4 p0 p1 p2 p3)))] _ _ _)
    refine wp_cond_true (S7.bool 0 37 rfl) ?_
    refine wp_skip ?_
    refine thenN ?_
    refine wp_seq ?_
    refine wp_block ?_
    refine wp_seq ?_
    refine wp_stmt_seq [.val (F4 (q4 p0 p1 p2 p3)), .val (iV ((g.1 + 1 : Nat) : Int)), .val (F4at ((q4 p0 p1 p2 p3) (g.1 + 1))), .val (FL (some ((q4 p0 p1 p2 p3) (g.1 + 1)))), .val (FL (some g.2.1)), kT] [.inr 0, .inr 1, .inr 2] [.inl 5, .inr 1, .inr 2, .inr 3, .inr 4] follows S7 rfl (by kernel_rfl) ?_ ?_
    · refine ⟨⟨⟨⟨⟨⟨trivial, ?_⟩, ?_⟩, ?_⟩, ?_⟩, ?_⟩, ?_⟩
      · exact mS 4 5
      · exact mS 1 8
      · exact owe_f4idx (k := g.1 + 1) rfl wA rfl (oO 0 40) (oO 1 41) (by omega) rfl
      · exact owe_f4load rfl wA rfl (oO 2 42) rfl
      · exact mS 3 6
      · exact owe_fcmp rfl wA rfl (oO 3 43) (oO 4 44) (lt_t k1) rfl
    intro B8 a8 W8 (S8 : Sta w 65 [(2, (.box 38 (SF [(Is (.float .f64 x)), (Is (.float .f64 y))]))), (3, (.box 38 (SF [(Is (.float .f64 x1)), (Is (.float .f64 y1))]))), (4, (.box 38 (Is (.agg #[.float .f64 0, .float .f64 0]))))] [(45, bT), (8, iV ((g.1 + 1 : Nat) : Int)), (7, (FL (some g.2.2))), (6, (FL (some g.2.1))), (5, (F4 (q4 p0 p1 p2 p3)))] _ _ _)
    refine wp_cond_true (S8.bool 0 45 rfl) ?_
    refine wp_stmt [.val (F4 (q4 p0 p1 p2 p3)), .val (iV ((g.1 + 1 : Nat) : Int)), .val (F4at ((q4 p0 p1 p2 p3) (g.1 + 1))), .val (FL (some ((q4 p0 p1 p2 p3) (g.1 + 1)))), .val (FL (some ((q4 p0 p1 p2 p3) (g.1 + 1))))] [.inr 0, .inr 1, .inr 2] [.inl 4, .inr 1, .inr 2, .inr 4] follows S8 rfl (by kernel_rfl) ?_ ?_
    · refine ⟨⟨⟨⟨⟨trivial, ?_⟩, ?_⟩, ?_⟩, ?_⟩, ?_⟩
      · exact mS 4 5
      · exact mS 1 8
      · exact owe_f4idx (k := g.1 + 1) rfl wA rfl (oO 0 46) (oO 1 47) (by omega) rfl
      · exact owe_f4load rfl wA rfl (oO 2 48) rfl
      · exact mO 3 49
    intro B9 a9 W9 (S9 : Sta w 65 [(2, (.box 38 (SF [(Is (.float .f64 x)), (Is (.float .f64 y))]))), (3, (.box 38 (SF [(Is (.float .f64 x1)), (Is (.float .f64 y1))]))), (4, (.box 38 (Is (.agg #[.float .f64 0, .float .f64 0]))))] [(6, (FL (some ((q4 p0 p1 p2 p3) (g.1 + 1))))), (8, iV ((g.1 + 1 : Nat) : Int)), (7, (FL (some g.2.2))), (5, (F4 (q4 p0 p1 p2 p3)))] _ _ _)
    refine thenN ?_
    refine wp_stmt_seq [.val (F4 (q4 p0 p1 p2 p3)), .val (iV ((g.1 + 1 : Nat) : Int)), .val (F4at ((q4 p0 p1 p2 p3) (g.1 + 1))), .val (FL (some ((q4 p0 p1 p2 p3) (g.1 + 1)))), .val (FL (some g.2.2)), kT] [.inr 0, .inr 1, .inr 2] [.inl 5, .inr 0, .inr 1, .inr 2, .inr 3] follows S9 rfl (by kernel_rfl) ?_ ?_
    · refine ⟨⟨⟨⟨⟨⟨trivial, ?_⟩, ?_⟩, ?_⟩, ?_⟩, ?_⟩, ?_⟩
      · exact mS 3 5
      · exact mS 1 8
      · exact owe_f4idx (k := g.1 + 1) rfl wA rfl (oO 0 50) (oO 1 51) (by omega) rfl
      · exact owe_f4load rfl wA rfl (oO 2 52) rfl
      · exact mS 2 7
      · exact owe_fcmp rfl wA rfl (oO 3 53) (oO 4 54) (gt_t k2) rfl
    intro B10 a10 W10 (S10 : Sta w 65 [(2, (.box 38 (SF [(Is (.float .f64 x)), (Is (.float .f64 y))]))), (3, (.box 38 (SF [(Is (.float .f64 x1)), (Is (.float .f64 y1))]))), (4, (.box 38 (Is (.agg #[.float .f64 0, .float .f64 0]))))] [(55, bT), (6, (FL (some ((q4 p0 p1 p2 p3) (g.1 + 1))))), (8, iV ((g.1 + 1 : Nat) : Int)), (7, (FL (some g.2.2))), (5, (F4 (q4 p0 p1 p2 p3)))] _ _ _)
    refine wp_cond_true (S10.bool 0 55 rfl) ?_
    refine wp_stmt [.val (F4 (q4 p0 p1 p2 p3)), .val (iV ((g.1 + 1 : Nat) : Int)), .val (F4at ((q4 p0 p1 p2 p3) (g.1 + 1))), .val (FL (some ((q4 p0 p1 p2 p3) (g.1 + 1)))), .val (FL (some ((q4 p0 p1 p2 p3) (g.1 + 1))))] [.inr 0, .inr 1, .inr 2] [.inl 4, .inr 1, .inr 2, .inr 4] follows S10 rfl (by kernel_rfl) ?_ ?_
    · refine ⟨⟨⟨⟨⟨trivial, ?_⟩, ?_⟩, ?_⟩, ?_⟩, ?_⟩
      · exact mS 4 5
      · exact mS 2 8
      · exact owe_f4idx (k := g.1 + 1) rfl wA rfl (oO 0 56) (oO 1 57) (by omega) rfl
      · exact owe_f4load rfl wA rfl (oO 2 58) rfl
      · exact mO 3 59
    intro B11 a11 W11 (S11 : Sta w 65 [(2, (.box 38 (SF [(Is (.float .f64 x)), (Is (.float .f64 y))]))), (3, (.box 38 (SF [(Is (.float .f64 x1)), (Is (.float .f64 y1))]))), (4, (.box 38 (Is (.agg #[.float .f64 0, .float .f64 0]))))] [(7, (FL (some ((q4 p0 p1 p2 p3) (g.1 + 1))))), (6, (FL (some ((q4 p0 p1 p2 p3) (g.1 + 1))))), (8, iV ((g.1 + 1 : Nat) : Int)), (5, (F4 (q4 p0 p1 p2 p3)))] _ _ _)
    refine inBlkN ?_
    refine thenN ?_
    refine wp_stmt [.val (iV ((g.1 + 1 : Nat) : Int)), .val (iV ((g.1 + 1 + 1 : Nat) : Int)), .val (iV ((g.1 + 1 + 1 : Nat) : Int))] [.inr 0, .inr 1, .inr 2] [.inl 2, .inr 0, .inr 1, .inr 3] follows S11 rfl (by kernel_rfl) ?_ ?_
    · refine ⟨⟨⟨trivial, ?_⟩, ?_⟩, ?_⟩
      · exact mS 2 8
      · exact b_add_int wA (oO 0 38) (opnd_const _)
      · exact mO 1 39
    intro B12 a12 W12 (S12 : Sta w 65 [(2, (.box 38 (SF [(Is (.float .f64 x)), (Is (.float .f64 y))]))), (3, (.box 38 (SF [(Is (.float .f64 x1)), (Is (.float .f64 y1))]))), (4, (.box 38 (Is (.agg #[.float .f64 0, .float .f64 0]))))] [(8, iV ((g.1 + 1 + 1 : Nat) : Int)), (7, (FL (some ((q4 p0 p1 p2 p3) (g.1 + 1))))), (6, (FL (some ((q4 p0 p1 p2 p3) (g.1 + 1))))), (5, (F4 (q4 p0 p1 p2 p3)))] _ _ _)
    refine thenN ?_
    exact ⟨(g.1 + 1, q4 p0 p1 p2 p3 (g.1 + 1), q4 p0 p1 p2 p3 (g.1 + 1)), ⟨⟨by omega, mn_t hcond.2.1 k1, mx_t hcond.2.2 k2⟩, B12, S12.sub [0, 1, 2] [0, 1, 2, 3]⟩, by show 3 - (g.1 + 1) < 3 - g.1; omega⟩
  · skip
    refine wp_seq ?_
    refine wp_stmt_seq [.val (iV ((g.1 + 1 : Nat) : Int)), kT] [.inr 0, .inr 1, .inr 2] [.inl 1, .inr 0, .inr 1, .inr 2, .inr 3] follows S6 rfl (by kernel_rfl) ?_ ?_
    · refine ⟨⟨trivial, ?_⟩, ?_⟩
      · exact mS 0 8
      · exact b_lss_int_t wA (oO 0 36) (opnd_const _)
    intro B7 a7 W7 (S7 : Sta w 65 [(2, (.box 38 (SF [(Is (.float .f64 x)), (Is (.float .f64 y))]))), (3, (.box 38 (SF [(Is (.float .f64 x1)), (Is (.float .f64 y1))]))), (4, (.box 38 (Is (.agg #[.float .f64 0, .float .f64 0]))))] [(37, bT), (8, iV ((g.1 + 1 : Nat) : Int)), (7, (FL (some g.2.2))), (6, (FL (some g.2.1))), (5, (F4 (q4 p0 p1 p2 p3)))] _ _ _)
    refine wp_cond_true (S7.bool 0 37 rfl) ?_
    refine wp_skip ?_
    refine thenN ?_
    refine wp_seq ?_
    refine wp_block ?_
    refine wp_seq ?_
    refine wp_stmt_seq [.val (F4 (q4 p0 p1 p2 p3)), .val (iV ((g.1 + 1 : Nat) : Int)), .val (F4at ((q4 p0 p1 p2 p3) (g.1 + 1))), .val (FL (some ((q4 p0 p1 p2 p3) (g.1 + 1)))), .val (FL (some g.2.1)), kT] [.inr 0, .inr 1, .inr 2] [.inl 5, .inr 1, .inr 2, .inr 3, .inr 4] follows S7 rfl (by kernel_rfl) ?_ ?_
    · refine ⟨⟨⟨⟨⟨⟨trivial, ?_⟩, ?_⟩, ?_⟩, ?_⟩, ?_⟩, ?_⟩
      · exact mS 4 5
      · exact mS 1 8
      · exact owe_f4idx (k := g.1 + 1) rfl wA rfl (oO 0 40) (oO 1 41) (by omega) rfl
      · exact owe_f4load rfl wA rfl (oO 2 42) rfl
      · exact mS 3 6
      · exact owe_fcmp rfl wA rfl (oO 3 43) (oO 4 44) (lt_t k1) rfl
    intro B8 a8 W8 (S8 : Sta w 65 [(2, (.box 38 (SF [(Is (.float .f64 x)), (Is (.float .f64 y))]))), (3, (.box 38 (SF [(Is (.float .f64 x1)), (Is (.float .f64 y1))]))), (4, (.box 38 (Is (.agg #[.float .f64 0, .float .f64 0]))))] [(45, bT), (8, iV ((g.1 + 1 : Nat) : Int)), (7, (FL (some g.2.2))), (6, (FL (some g.2.1))), (5, (F4 (q4 p0 p1 p2 p3)))] _ _ _)
    refine wp_cond_true (S8.bool 0 45 rfl) ?_
    refine wp_stmt [.val (F4 (q4 p0 p1 p2 p3)), .val (iV ((g.1 + 1 : Nat) : Int)), .val (F4at ((q4 p0 p1 p2 p3) (g.1 + 1))), .val (FL (some ((q4 p0 p1 p2 p3) (g.1 + 1)))), .val (FL (some ((q4 p0 p1 p2 p3) (g.1 + 1))))] [.inr 0, .inr 1, .inr 2] [.inl 4, .inr 1, .inr 2, .inr 4] follows S8 rfl (by kernel_rfl) ?_ ?_
    · refine ⟨⟨⟨⟨⟨trivial, ?_⟩, ?_⟩, ?_⟩, ?_⟩, ?_⟩
      · exact mS 4 5
      · exact mS 1 8
      · exact owe_f4idx (k := g.1 + 1) rfl wA rfl (oO 0 46) (oO 1 47) (by omega) rfl
      · exact owe_f4load rfl wA rfl (oO 2 48) rfl
      · exact mO 3 49
    intro B9 a9 W9 (S9 : Sta w 65 [(2, (.box 38 (SF [(Is (.float .f64 x)), (Is (.float .f64 y))]))), (3, (.box 38 (SF [(Is (.float .f64 x1)), (Is (.float .f64 y1))]))), (4, (.box 38 (Is (.agg #[.float .f64 0, .float .f64 0]))))] [(6, (FL (some ((q4 p0 p1 p2 p3) (g.1 + 1))))), (8, iV ((g.1 + 1 : Nat) : Int)), (7, (FL (some g.2.2))), (5, (F4 (q4 p0 p1 p2 p3)))] _ _ _)
    refine thenN ?_
    refine wp_stmt_seq [.val (F4 (q4 p0 p1 p2 p3)), .val (iV ((g.1 + 1 : Nat) : Int)), .val (F4at ((q4 p0 p1 p2 p3) (g.1 + 1))), .val (FL (some ((q4 p0 p1 p2 p3) (g.1 + 1)))), .val (FL (some g.2.2)), kF] [.inr 0, .inr 1, .inr 2] [.inl 5, .inr 0, .inr 1, .inr 2, .inr 3] follows S9 rfl (by kernel_rfl) ?_ ?_
    · refine ⟨⟨⟨⟨⟨⟨trivial, ?_⟩, ?_⟩, ?_⟩, ?_⟩, ?_⟩, ?_⟩
      · exact mS 3 5
      · exact mS 1 8
      · exact owe_f4idx (k := g.1 + 1) rfl wA rfl (oO 0 50) (oO 1 51) (by omega) rfl
      · exact owe_f4load rfl wA rfl (oO 2 52) rfl
      · exact mS 2 7
      · exact owe_fcmp rfl wA rfl (oO 3 53) (oO 4 54) (gt_f k2) rfl
    intro B10 a10 W10 (S10 : Sta w 65 [(2, (.box 38 (SF [(Is (.float .f64 x)), (Is (.float .f64 y))]))), (3, (.box 38 (SF [(Is (.float .f64 x1)), (Is (.float .f64 y1))]))), (4, (.box 38 (Is (.agg #[.float .f64 0, .float .f64 0]))))] [(55, bF), (6, (FL (some ((q4 p0 p1 p2 p3) (g.1 + 1))))), (8, iV ((g.1 + 1 : Nat) : Int)), (7, (FL (some g.2.2))), (5, (F4 (q4 p0 p1 p2 p3)))] _ _ _)
    refine wp_cond_false (S10.bool 0 55 rfl) ?_
    refine wp_skip ?_
    refine inBlkN ?_
    refine thenN ?_
    refine wp_stmt [.val (iV ((g.1 + 1 : Nat) : Int)), .val (iV ((g.1 + 1 + 1 : Nat) : Int)), .val (iV ((g.1 + 1 + 1 : Nat) : Int))] [.inr 0, .inr 1, .inr 2] [.inl 2, .inr 1, .inr 3, .inr 4] follows S10 rfl (by kernel_rfl) ?_ ?_
    · refine ⟨⟨⟨trivial, ?_⟩, ?_⟩, ?_⟩
      · exact mS 2 8
      · exact b_add_int wA (oO 0 38) (opnd_const _)
      · exact mO 1 39
    intro B11 a11 W11 (S11 : Sta w 65 [(2, (.box 38 (SF [(Is (.float .f64 x)), (Is (.float .f64 y))]))), (3, (.box 38 (SF [(Is (.float .f64 x1)), (Is (.float .f64 y1))]))), (4, (.box 38 (Is (.agg #[.float .f64 0, .float .f64 0]))))] [(8, iV ((g.1 + 1 + 1 : Nat) : Int)), (6, (FL (some ((q4 p0 p1 p2 p3) (g.1 + 1))))), (7, (FL (some g.2.2))), (5, (F4 (q4 p0 p1 p2 p3)))] _ _ _)
    refine thenN ?_
    exact ⟨(g.1 + 1, q4 p0 p1 p2 p3 (g.1 + 1), g.2.2), ⟨⟨by omega, mn_t hcond.2.1 k1, mx_f hcond.2.2 k2⟩, B11, S11.sub [0, 1, 2] [0, 2, 1, 3]⟩, by show 3 - (g.1 + 1) < 3 - g.1; omega⟩
  · skip
    refine wp_seq ?_
    refine wp_stmt_seq [.val (iV ((g.1 + 1 : Nat) : Int)), kT] [.inr 0, .inr 1, .inr 2] [.inl 1, .inr 0, .inr 1, .inr 2, .inr 3] follows S6 rfl (by kernel_rfl) ?_ ?_
    · refine ⟨⟨trivial, ?_⟩, ?_⟩
      · exact mS 0 8
      · exact b_lss_int_t wA (oO 0 36) (opnd_const _)
    intro B7 a7 W7 (S7 : Sta w 65 [(2, (.box 38 (SF [(Is (.float .f64 x)), (Is (.float .f64 y))]))), (3, (.box 38 (SF [(Is (.float .f64 x1)), (Is (.float .f64 y1))]))), (4, (.box 38 (Is (.agg #[.float .f64 0, .float .f64 0]))))] [(37, bT), (8, iV ((g.1 + 1 : Nat) : Int)), (7, (FL (some g.2.2))), (6, (FL (some g.2.1))), (5, (F4 (q4 p0 p1 p2 p3)))] _ _ _)
    refine wp_cond_true (S7.bool 0 37 rfl) ?_
    refine wp_skip ?_
    refine thenN ?_
    refine wp_seq ?_
    refine wp_block ?_
    refine wp_seq ?_
    refine wp_stmt_seq [.val (F4 (q4 p0 p1 p2 p3)), .val (iV ((g.1 + 1 : Nat) : Int)), .val (F4at ((q4 p0 p1 p2 p3) (g.1 + 1))), .val (FL (some ((q4 p0 p1 p2 p3) (g.1 + 1)))), .val (FL (some g.2.1)), kF] [.inr 0, .inr 1, .inr 2] [.inl 5, .inr 1, .inr 2, .inr 3, .inr 4] follows S7 rfl (by kernel_rfl) ?_ ?_
    · refine ⟨⟨⟨⟨⟨⟨trivial, ?_⟩, ?_⟩, ?_⟩, ?_⟩, ?_⟩, ?_⟩
      · exact mS 4 5
      · exact mS 1 8
      · exact owe_f4idx (k := g.1 + 1) rfl wA rfl (oO 0 40) (oO 1 41) (by omega) rfl
      · exact owe_f4load rfl wA rfl (oO 2 42) rfl
      · exact mS 3 6
      · exact owe_fcmp rfl wA rfl (oO 3 43) (oO 4 44) (lt_f k1) rfl
    intro B8 a8 W8 (S8 : Sta w 65 [(2, (.box 38 (SF [(Is (.float .f64 x)), (Is (.float .f64 y))]))), (3, (.box 38 (SF [(Is (.float .f64 x1)), (Is (.float .f64 y1))]))), (4, (.box 38 (Is (.agg #[.float .f64 0, .float .f64 0]))))] [(45, bF), (8, iV ((g.1 + 1 : Nat) : Int)), (7, (FL (some g.2.2))), (6, (FL (some g.2.1))), (5, (F4 (q4 p0 p1 p2 p3)))] _ _ _)
    refine wp_cond_false (S8.bool 0 45 rfl) ?_
    refine wp_skip ?_
    refine thenN ?_
    refine wp_stmt_seq [.val (F4 (q4 p0 p1 p2 p3)), .val (iV ((g.1 + 1 : Nat) : Int)), .val (F4at ((q4 p0 p1 p2 p3) (g.1 + 1))), .val (FL (some ((q4 p0 p1 p2 p3) (g.1 + 1)))), .val (FL (some g.2.2)), kT] [.inr 0, .inr 1, .inr 2] [.inl 5, .inr 1, .inr 2, .inr 3, .inr 4] follows S8 rfl (by kernel_rfl) ?_ ?_
    · refine ⟨⟨⟨⟨⟨⟨trivial, ?_⟩, ?_⟩, ?_⟩, ?_⟩, ?_⟩, ?_⟩
      · exact mS 4 5
      · exact mS 1 8
      · exact owe_f4idx (k := g.1 + 1) rfl wA rfl (oO 0 50) (oO 1 51) (by omega) rfl
      · exact owe_f4load rfl wA rfl (oO 2 52) rfl
      · exact mS 2 7
      · exact owe_fcmp rfl wA rfl (oO 3 53) (oO 4 54) (gt_t k2) rfl
    intro B9 a9 W9 (S9 : Sta w 65 [(2, (.box 38 (SF [(Is (.float .f64 x)), (Is (.float .f64 y))]))), (3, (.box 38 (SF [(Is (.float .f64 x1)), (Is (.float .f64 y1))]))), (4, (.box 38 (Is (.agg #[.float .f64 0, .float .f64 0]))))] [(55, bT), (8, iV ((g.1 + 1 : Nat) : Int)), (7, (FL (some g.2.2))), (6, (FL (some g.2.1))), (5, (F4 (q4 p0 p1 p2 p3)))] _ _ _)
    refine wp_cond_true (S9.bool 0 55 rfl) ?_
    refine wp_stmt [.val (F4 (q4 p0 p1 p2 p3)), .val (iV ((g.1 + 1 : Nat) : Int)), .val (F4at ((q4 p0 p1 p2 p3) (g.1 + 1))), .val (FL (some ((q4 p0 p1 p2 p3) (g.1 + 1)))), .val (FL (some ((q4 p0 p1 p2 p3) (g.1 + 1))))] [.inr 0, .inr 1, .inr 2] [.inl 4, .inr 1, .inr 3, .inr 4] follows S9 rfl (by kernel_rfl) ?_ ?_
    · refine ⟨⟨⟨⟨⟨trivial, ?_⟩, ?_⟩, ?_⟩, ?_⟩, ?_⟩
      · exact mS 4 5
      · exact mS 1 8
      · exact owe_f4idx (k := g.1 + 1) rfl wA rfl (oO 0 56) (oO 1 57) (by omega) rfl
      · exact owe_f4load rfl wA rfl (oO 2 58) rfl
      · exact mO 3 59
    intro B10 a10 W10 (S10 : Sta w 65 [(2, (.box 38 (SF [(Is (.float .f64 x)), (Is (.float .f64 y))]))), (3, (.box 38 (SF [(Is (.float .f64 x1)), (Is (.float .f64 y1))]))), (4, (.box 38 (Is (.agg #[.float .f64 0, .float .f64 0]))))] [(7, (FL (some ((q4 p0 p1 p2 p3) (g.1 + 1))))), (8, iV ((g.1 + 1 : Nat) : Int)), (6, (FL (some g.2.1))), (5, (F4 (q4 p0 p1 p2 p3)))] _ _ _)
    refine inBlkN ?_
    refine thenN ?_
    refine wp_stmt [.val (iV ((g.1 + 1 : Nat) : Int)), .val (iV ((g.1 + 1 + 1 : Nat) : Int)), .val (iV ((g.1 + 1 + 1 : Nat) : Int))] [.inr 0, .inr 1, .inr 2] [.inl 2, .inr 0, .inr 2, .inr 3] follows S10 rfl (by kernel_rfl) ?_ ?_
    · refine ⟨⟨⟨trivial, ?_⟩, ?_⟩, ?_⟩
      · exact mS 1 8
      · exact b_add_int wA (oO 0 38) (opnd_const _)
      · exact mO 1 39
    intro B11 a11 W11 (S11 : Sta w 65 [(2, (.box 38 (SF [(Is (.float .f64 x)), (Is (.float .f64 y))]))), (3, (.box 38 (SF [(Is (.float .f64 x1)), (Is (.float .f64 y1))]))), (4, (.box 38 (Is (.agg #[.float .f64 0, .float .f64 0]))))] [(8, iV ((g.1 + 1 + 1 : Nat) : Int)), (7, (FL (some ((q4 p0 p1 p2 p3) (g.1 + 1))))), (6, (FL (some g.2.1))), (5, (F4 (q4 p0 p1 p2 p3)))] _ _ _)
    refine thenN ?_
    exact ⟨(g.1 + 1, g.2.1, q4 p0 p1 p2 p3 (g.1 + 1)), ⟨⟨by omega, mn_f hcond.2.1 k1, mx_t hcond.2.2 k2⟩, B11, S11.sub [0, 1, 2] [0, 1, 2, 3]⟩, by show 3 - (g.1 + 1) < 3 - g.1; omega⟩
  · skip
    refine wp_seq ?_
    refine wp_stmt_seq [.val (iV ((g.1 + 1 : Nat) : Int)), kT] [.inr 0, .inr 1, .inr 2] [.inl 1, .inr 0, .inr 1, .inr 2, .inr 3] follows S6 rfl (by kernel_rfl) ?_ ?_
    · refine ⟨⟨trivial, ?_⟩, ?_⟩
      · exact mS 0 8
      · exact b_lss_int_t wA (oO 0 36) (opnd_const _)
    intro B7 a7 W7 (S7 : Sta w 65 [(2, (.box 38 (SF [(Is (.float .f64 x)), (Is (.float .f64 y))]))), (3, (.box 38 (SF [(Is (.float .f64 x1)), (Is (.float .f64 y1))]))), (4, (.box 38 (Is (.agg #[.float .f64 0, .float .f64 0]))))] [(37, bT), (8, iV ((g.1 + 1 : Nat) : Int)), (7, (FL (some g.2.2))), (6, (FL (some g.2.1))), (5, (F4 (q4 p0 p1 p2 p3)))] _ _ _)
    refine wp_cond_true (S7.bool 0 37 rfl) ?_
    refine wp_skip ?_
    refine thenN ?_
    refine wp_seq ?_
    refine wp_block ?_
    refine wp_seq ?_
    refine wp_stmt_seq [.val (F4 (q4 p0 p1 p2 p3)), .val (iV ((g.1 + 1 : Nat) : Int)), .val (F4at ((q4 p0 p1 p2 p3) (g.1 + 1))), .val (FL (some ((q4 p0 p1 p2 p3) (g.1 + 1)))), .val (FL (some g.2.1)), kF] [.inr 0, .inr 1, .inr 2] [.inl 5, .inr 1, .inr 2, .inr 3, .inr 4] follows S7 rfl (by kernel_rfl) ?_ ?_
    · refine ⟨⟨⟨⟨⟨⟨trivial, ?_⟩, ?_⟩, ?_⟩, ?_⟩, ?_⟩, ?_⟩
      · exact mS 4 5
      · exact mS 1 8
      · exact owe_f4idx (k := g.1 + 1) rfl wA rfl (oO 0 40) (oO 1 41) (by omega) rfl
      · exact owe_f4load rfl wA rfl (oO 2 42) rfl
      · exact mS 3 6
      · exact owe_fcmp rfl wA rfl (oO 3 43) (oO 4 44) (lt_f k1) rfl
    intro B8 a8 W8 (S8 : Sta w 65 [(2, (.box 38 (SF [(Is (.float .f64 x)), (Is (.float .f64 y))]))), (3, (.box 38 (SF [(Is (.float .f64 x1)), (Is (.float .f64 y1))]))), (4, (.box 38 (Is (.agg #[.float .f64 0, .float .f64 0]))))] [(45, bF), (8, iV ((g.1 + 1 : Nat) : Int)), (7, (FL (some g.2.2))), (6, (FL (some g.2.1))), (5, (F4 (q4 p0 p1 p2 p3)))] _ _ _)
    refine wp_cond_false (S8.bool 0 45 rfl) ?_
    refine wp_skip ?_
    refine thenN ?_
    refine wp_stmt_seq [.val (F4 (q4 p0 p1 p2 p3)), .val (iV ((g.1 + 1 : Nat) : Int)), .val (F4at ((q4 p0 p1 p2 p3) (g.1 + 1))), .val (FL (some ((q4 p0 p1 p2 p3) (g.1 + 1)))), .val (FL (some g.2.2)), kF] [.inr 0, .inr 1, .inr 2] [.inl 5, .inr 1, .inr 2, .inr 3, .inr 4] follows S8 rfl (by kernel_rfl) ?_ ?_
    · refine ⟨⟨⟨⟨⟨⟨trivial, ?_⟩, ?_⟩, ?_⟩, ?_⟩, ?_⟩, ?_⟩
      · exact mS 4 5
      · exact mS 1 8
      · exact owe_f4idx (k := g.1 + 1) rfl wA rfl (oO 0 50) (oO 1 51) (by omega) rfl
      · exact owe_f4load rfl wA rfl (oO 2 52) rfl
      · exact mS 2 7
      · exact owe_fcmp rfl wA rfl (oO 3 53) (oO 4 54) (gt_f k2) rfl
    intro B9 a9 W9 (S9 : Sta w 65 [(2, (.box 38 (SF [(Is (.float .f64 x)), (Is (.float .f64 y))]))), (3, (.box 38 (SF [(Is (.float .f64 x1)), (Is (.float .f64 y1))]))), (4, (.box 38 (Is (.agg #[.float .f64 0, .float .f64 0]))))] [(55, bF), (8, iV ((g.1 + 1 : Nat) : Int)), (7, (FL (some g.2.2))), (6, (FL (some g.2.1))), (5, (F4 (q4 p0 p1 p2 p3)))] _ _ _)
    refine wp_cond_false (S9.bool 0 55 rfl) ?_
    refine wp_skip ?_
    refine inBlkN ?_
    refine thenN ?_
    refine wp_stmt [.val (iV ((g.1 + 1 : Nat) : Int)), .val (iV ((g.1 + 1 + 1 : Nat) : Int)), .val (iV ((g.1 + 1 + 1 : Nat) : Int))] [.inr 0, .inr 1, .inr 2] [.inl 2, .inr 2, .inr 3, .inr 4] follows S9 rfl (by kernel_rfl) ?_ ?_
    · refine ⟨⟨⟨trivial, ?_⟩, ?_⟩, ?_⟩
      · exact mS 1 8
      · exact b_add_int wA (oO 0 38) (opnd_const _)
      · exact mO 1 39
    intro B10 a10 W10 (S10 : Sta w 65 [(2, (.box 38 (SF [(Is (.float .f64 x)), (Is (.float .f64 y))]))), (3, (.box 38 (SF [(Is (.float .f64 x1)), (Is (.float .f64 y1))]))), (4, (.box 38 (Is (.agg #[.float .f64 0, .float .f64 0]))))] [(8, iV ((g.1 + 1 + 1 : Nat) : Int)), (7, (FL (some g.2.2))), (6, (FL (some g.2.1))), (5, (F4 (q4 p0 p1 p2 p3)))] _ _ _)
    refine thenN ?_
    exact ⟨(g.1 + 1, g.2.1, g.2.2), ⟨⟨by omega, mn_f hcond.2.1 k1, mx_f hcond.2.2 k2⟩, B10, S10.sub [0, 1, 2] [0, 1, 2, 3]⟩, by show 3 - (g.1 + 1) < 3 - g.1; omega⟩
  · have e3 : g.1 = 3 := by omega
    have em : g.2.1 = mnP (q4 p0 p1 p2 p3) 3 := by rw [hcond.2.1, e3]
    have ex : g.2.2 = mxP (q4 p0 p1 p2 p3) 3 := by rw [hcond.2.2, e3]
    rw [em, ex] at S6
    refine wp_seq ?_
    refine wp_stmt_seq [.val (iV ((g.1 + 1 : Nat) : Int)), kF] [.inr 0, .inr 1, .inr 2] [.inl 1, .inr 0, .inr 1, .inr 2, .inr 3] follows S6 rfl (by kernel_rfl) ?_ ?_
    · refine ⟨⟨trivial, ?_⟩, ?_⟩
      · exact mS 0 8
      · exact b_lss_int_f wA (oO 0 36) (opnd_const _)
    intro B7 a7 W7 (S7 : Sta w 65 [(2, (.box 38 (SF [(Is (.float .f64 x)), (Is (.float .f64 y))]))), (3, (.box 38 (SF [(Is (.float .f64 x1)), (Is (.float .f64 y1))]))), (4, (.box 38 (Is (.agg #[.float .f64 0, .float .f64 0]))))] [(37, bF), (8, iV ((g.1 + 1 : Nat) : Int)), (7, (FL (some (mxP (q4 p0 p1 p2 p3) 3)))), (6, (FL (some (mnP (q4 p0 p1 p2 p3) 3)))), (5, (F4 (q4 p0 p1 p2 p3)))] _ _ _)
    refine wp_cond_false (S7.bool 0 37 rfl) ?_
    refine wp_exit ?_
    refine thenX ?_
    refine thenX ?_
    refine inBlkE ?_
    refine thenN ?_
    refine wp_stmt_seq [.val (FL (some (mnP (q4 p0 p1 p2 p3) 3))), .val (FL (dnP (some (mnP (q4 p0 p1 p2 p3) 3)))), .val (FL (some (mxP (q4 p0 p1 p2 p3) 3))), .val (FL (upP (some (mxP (q4 p0 p1 p2 p3) 3)))), .val (SF [(FL (dnP (some (mnP (q4 p0 p1 p2 p3) 3)))), (FL (upP (some (mxP (q4 p0 p1 p2 p3) 3))))]), .put (.inl 4) (.box 38 (SF [(FL (dnP (some (mnP (q4 p0 p1 p2 p3) 3)))), (FL (upP (some (mxP (q4 p0 p1 p2 p3) 3))))]))] [.inr 0, .inr 1, .inr 2] [.inr 1, .inr 2, .inr 3, .inr 4] follows S7 rfl (by kernel_rfl) ?_ ?_
    · refine ⟨⟨⟨⟨⟨⟨trivial, ?_⟩, ?_⟩, ?_⟩, ?_⟩, ?_⟩, ?_⟩
      · exact mS 3 6
      · exact cc1 wA (qO 0 60 rfl) (fresh_fl _) h_rdown
      · exact mS 2 7
      · exact cc1 wA (qO 2 62 rfl) (fresh_fl _) h_rup
      · exact owe_build_iv rfl wA rfl (oO 1 61) (oO 3 63) flt_fl flt_fl rfl
      · exact owe_set rfl wA rfl (k := 2) rfl (by kernel_rfl) (oO 4 64) (stores_of strct_ival shp_i0 shp_iv) rfl
    intro B8 a8 W8 (S8 : Sta w 65 [(2, (.box 38 (SF [(Is (.float .f64 x)), (Is (.float .f64 y))]))), (3, (.box 38 (SF [(Is (.float .f64 x1)), (Is (.float .f64 y1))]))), (4, (.box 38 (SF [(FL (dnP (some (mnP (q4 p0 p1 p2 p3) 3)))), (FL (upP (some (mxP (q4 p0 p1 p2 p3) 3))))])))] [(8, iV ((g.1 + 1 : Nat) : Int)), (7, (FL (some (mxP (q4 p0 p1 p2 p3) 3)))), (6, (FL (some (mnP (q4 p0 p1 p2 p3) 3)))), (5, (F4 (q4 p0 p1 p2 p3)))] _ _ _)
    refine wp_ret ?_
    exact end_one S8 rfl (res_cell S8 2 4 rfl strct_ival shp_iv)

def dnI (m : Int) : Int := if m = -9218868437227405312 then m else m - 1
theorem le0_t {x : Nat} {p : Int} (h : plc x = some p) (hp : p ≤ 0) : (ordP (plc x) (plc 0) == some .lt || ordP (plc x) (plc 0) == some .eq) = true := by rw [h]; exact le_t hp
theorem le0_f {x : Nat} {p : Int} (h : plc x = some p) (hp : 0 < p) : (ordP (plc x) (plc 0) == some .lt || ordP (plc x) (plc 0) == some .eq) = false := by rw [h]; exact le_f hp
theorem ge0_t {x : Nat} {p : Int} (h : plc x = some p) (hp : 0 ≤ p) : (ordP (plc x) (plc 0) == some .gt || ordP (plc x) (plc 0) == some .eq) = true := by rw [h]; exact ge_t hp
theorem ge0_f {x : Nat} {p : Int} (h : plc x = some p) (hp : p < 0) : (ordP (plc x) (plc 0) == some .gt || ordP (plc x) (plc 0) == some .eq) = false := by rw [h]; exact ge_f hp
section
variable {ops : Array Oper} {l : List Kd} {bx : Bxs} {sl : List (Tmp × Pr)} {i : Nat} {o : Oper} {Q : Exit → Act → World → Prop} {a0 : Act} {n : Nat} {w0 : World}
theorem owe_farithS {x y : Operand} {op : BinOp} {T T' : TypeId} {a b : Nat} {r : Option Int} (hop' : op = .add ∨ op = .sub ∨ op = .mul) (ho : ops[i]? = some o) (hw : Wants ops l bx sl i o) (hop : o.op = .binOp op T x y T') (hx : Opnd ops l bx sl i x (Is (.float .f64 a))) (hy : Opnd ops l bx sl i y (Is (.float .f64 b))) (hr : arP op a b = r)
    (hk : kdAt l i = .val (FL r)) : Owed Tryz.prog ops Q l bx sl a0 n w0 i := owe_farith hop' ho hw hop hx hy (by rw [hr]; exact hk)
end
set_option maxHeartbeats 400000 in
theorem sqr_f (w : World) (x y : Nat) (hx : x < 18446744073709551616) (hy : y < 18446744073709551616) (h : okI x y = false) :
    Calls Tryz.prog 24 #[(.agg #[.float .f64 x, .float .f64 y])] w (Gives (TWO (fun _ => SF [Is (.float .f64 0), Is (.float .f64 0)]) (IS (.int .i64 90))) w) := by
  refine calls_sta (sl := [(0, (SF [(Is (.float .f64 x)), (Is (.float .f64 y))]))]) Tryz.func24 rfl Tryz.ntmps24 (by simp) (args_cons rfl (ix_has) args_nil) ?_
  intro a0 S0
  refine wp_stmt_seq [.new (.box 38 (SF [(Is (.float .f64 x)), (Is (.float .f64 y))])), .new (.box 38 (Is (.agg #[.float .f64 0, .float .f64 0]))), .val (iV 0)] [.inl 0, .inl 1] [] follows S0 rfl (by kernel_rfl) ?_ ?_
  · refine ⟨⟨⟨trivial, ?_⟩, ?_⟩, ?_⟩
    · exact owe_box rfl wA rfl (oS 0 0) rfl (fun ρ w h => box_ival shp_iv ρ _ _ w h)
    · exact owe_new rfl wA rfl rfl (fun ρ w => alloc_ival ρ _ w)
    · exact mC
  intro B1 a1 W1 (S1 : Sta w 46 [(1, (.box 38 (SF [(Is (.float .f64 x)), (Is (.float .f64 y))]))), (2, (.box 38 (Is (.agg #[.float .f64 0, .float .f64 0]))))] [] _ _ _)
  refine wp_seq ?_
  refine wp_stmt_seq [.val (SF [(Is (.float .f64 x)), (Is (.float .f64 y))]), .val (iV 90), .val (iV 90)] [.inr 0, .inr 1] [.inl 2] follows S1 rfl (by kernel_rfl) ?_ ?_
  · refine ⟨⟨⟨trivial, ?_⟩, ?_⟩, ?_⟩
    · exact lod 0 wA (loads_of strct_ival shp_iv)
    · exact cc1 wA (qO 0 8 rfl) (fresh_is _) (ix1 (fun w => ivalid_f w _ _ hx hy h))
    · exact mO 1 9
  intro B2 a2 W2 (S2 : Sta w 46 [(1, (.box 38 (SF [(Is (.float .f64 x)), (Is (.float .f64 y))]))), (2, (.box 38 (Is (.agg #[.float .f64 0, .float .f64 0]))))] [(4, iV 90)] _ _ _)
  refine wp_stmt_seq [.val (iV 90), kT] [.inr 0, .inr 1] [.inl 1, .inr 0] follows S2 rfl (by kernel_rfl) ?_ ?_
  · refine ⟨⟨trivial, ?_⟩, ?_⟩
    · exact mS 0 4
    · exact b_neq_errno_t wA (oO 0 10) (opnd_const _) (h := by decide)
  intro B3 a3 W3 (S3 : Sta w 46 [(1, (.box 38 (SF [(Is (.float .f64 x)), (Is (.float .f64 y))]))), (2, (.box 38 (Is (.agg #[.float .f64 0, .float .f64 0]))))] [(11, bT), (4, iV 90)] _ _ _)
  refine wp_cond_true (S3.bool 0 11 rfl) ?_
  refine wp_stmt_seq [.val (SF [(Is (.float .f64 0)), (Is (.float .f64 0))]), .val (iV 90), .put (.inl 2) (.box 38 (SF [(Is (.float .f64 0)), (Is (.float .f64 0))])), .val (iV 90)] [.inr 0, .inr 1] [.inl 3] follows S3 rfl (by kernel_rfl) ?_ ?_
  · refine ⟨⟨⟨⟨trivial, ?_⟩, ?_⟩, ?_⟩, ?_⟩
    · exact owe_build_iv0 rfl wA rfl rfl
    · exact mS 1 4
    · exact owe_set rfl wA rfl (k := 1) rfl (by kernel_rfl) (oO 0 12) (stores_of strct_ival shp_i0 shp_iv) rfl
    · exact mO 1 13
  intro B4 a4 W4 (S4 : Sta w 46 [(1, (.box 38 (SF [(Is (.float .f64 x)), (Is (.float .f64 y))]))), (2, (.box 38 (SF [(Is (.float .f64 0)), (Is (.float .f64 0))])))] [(3, iV 90)] _ _ _)
  refine wp_ret ?_
  refine thenR ?_
  exact end_two S4 rfl (res_cell S4 1 2 rfl strct_ival shp_iv) (res_tmp S4 0 3 rfl)
set_option maxHeartbeats 1000000 in
theorem sqr_A (w : World) (x y : Nat) (hx : x < 18446744073709551616) (hy : y < 18446744073709551616) (h : okI x y = true) (px py p0 p1 : Int) (hpx : plc x = some px) (hpy : plc y = some py) (h0 : tmP x x = some p0) (h1 : tmP y y = some p1) (hd : dnI (mnP (q2 p0 p1) 1) < 0) :
    Calls Tryz.prog 24 #[(.agg #[.float .f64 x, .float .f64 y])] w (Gives (TWO (IVN (plc 0) (hiP (some (mxP (q2 p0 p1) 1)))) (IS (.int .i64 0))) w) := by
  refine calls_sta (sl := [(0, (SF [(Is (.float .f64 x)), (Is (.float .f64 y))]))]) Tryz.func24 rfl Tryz.ntmps24 (by simp) (args_cons rfl (ix_has) args_nil) ?_
  intro a0 S0
  refine wp_stmt_seq [.new (.box 38 (SF [(Is (.float .f64 x)), (Is (.float .f64 y))])), .new (.box 38 (Is (.agg #[.float .f64 0, .float .f64 0]))), .val (iV 0)] [.inl 0, .inl 1] [] follows S0 rfl (by kernel_rfl) ?_ ?_
  · refine ⟨⟨⟨trivial, ?_⟩, ?_⟩, ?_⟩
    · exact owe_box rfl wA rfl (oS 0 0) rfl (fun ρ w h => box_ival shp_iv ρ _ _ w h)
    · exact owe_new rfl wA rfl rfl (fun ρ w => alloc_ival ρ _ w)
    · exact mC
  intro B1 a1 W1 (S1 : Sta w 46 [(1, (.box 38 (SF [(Is (.float .f64 x)), (Is (.float .f64 y))]))), (2, (.box 38 (Is (.agg #[.float .f64 0, .float .f64 0]))))] [] _ _ _)
  refine wp_seq ?_
  refine wp_stmt_seq [.val (SF [(Is (.float .f64 x)), (Is (.float .f64 y))]), .val (iV 0), .val (iV 0)] [.inr 0, .inr 1] [.inl 2] follows S1 rfl (by kernel_rfl) ?_ ?_
  · refine ⟨⟨⟨trivial, ?_⟩, ?_⟩, ?_⟩
    · exact lod 0 wA (loads_of strct_ival shp_iv)
    · exact cc1 wA (qO 0 8 rfl) (fresh_is _) (ix1 (fun w => ivalid_t w _ _ hx hy h))
    · exact mO 1 9
  intro B2 a2 W2 (S2 : Sta w 46 [(1, (.box 38 (SF [(Is (.float .f64 x)), (Is (.float .f64 y))]))), (2, (.box 38 (Is (.agg #[.float .f64 0, .float .f64 0]))))] [(4, iV 0)] _ _ _)
  refine wp_stmt_seq [.val (iV 0), kF] [.inr 0, .inr 1] [.inl 1, .inr 0] follows S2 rfl (by kernel_rfl) ?_ ?_
  · refine ⟨⟨trivial, ?_⟩, ?_⟩
    · exact mS 0 4
    · exact b_neq_errno_f wA (oO 0 10) (opnd_const _) (h := by decide)
  intro B3 a3 W3 (S3 : Sta w 46 [(1, (.box 38 (SF [(Is (.float .f64 x)), (Is (.float .f64 y))]))), (2, (.box 38 (Is (.agg #[.float .f64 0, .float .f64 0]))))] [(11, bF), (4, iV 0)] _ _ _)
  refine wp_cond_false (S3.bool 0 11 rfl) ?_
  refine wp_skip ?_
  refine thenN ?_
  refine wp_stmt_seq [.val (Part a3 1 0), .val (Is (.float .f64 x)), .val (Part a3 1 0), .val (Is (.float .f64 x)), .val (FL (some p0)), .val (Part a3 1 1), .val (Is (.float .f64 y)), .val (Part a3 1 1), .val (Is (.float .f64 y)), .val (FL (some p1)), .val (FL (some p0)), .val (FL (some p1))] [.inr 0, .inr 1] [.inl 10, .inl 11] follows S3 rfl (by kernel_rfl) ?_ ?_
  · repeat' refine And.intro ?_ ?_
    · trivial
    · exact owe_part rfl wA rfl (k := 0) rfl (by kernel_rfl) rfl (fun ρ w b h => part_ival0 ρ _ _ w b 0 h)
    · exact owe_pload rfl wA rfl (oO 0 14) (k := 0) rfl (by kernel_rfl) rfl (fun ρ w b u h1 h2 h3 => ploadI rfl load1_f64 ρ _ _ w b u h1 h2 h3)
    · exact owe_part rfl wA rfl (k := 0) rfl (by kernel_rfl) rfl (fun ρ w b h => part_ival0 ρ _ _ w b 0 h)
    · exact owe_pload rfl wA rfl (oO 2 16) (k := 0) rfl (by kernel_rfl) rfl (fun ρ w b u h1 h2 h3 => ploadI rfl load1_f64 ρ _ _ w b u h1 h2 h3)
    · exact cc2 wA (qO 1 15 rfl) (qO 3 17 rfl) (fresh_fl _) (h_it hx hx h0)
    · exact owe_part rfl wA rfl (k := 0) rfl (by kernel_rfl) rfl (fun ρ w b h => part_ival1 ρ _ _ w b 0 h)
    · exact owe_pload rfl wA rfl (oO 5 19) (k := 0) rfl (by kernel_rfl) rfl (fun ρ w b u h1 h2 h3 => ploadI rfl load1_f64 ρ _ _ w b u h1 h2 h3)
    · exact owe_part rfl wA rfl (k := 0) rfl (by kernel_rfl) rfl (fun ρ w b h => part_ival1 ρ _ _ w b 0 h)
    · exact owe_pload rfl wA rfl (oO 7 21) (k := 0) rfl (by kernel_rfl) rfl (fun ρ w b u h1 h2 h3 => ploadI rfl load1_f64 ρ _ _ w b u h1 h2 h3)
    · exact cc2 wA (qO 6 20 rfl) (qO 8 22 rfl) (fresh_fl _) (h_it hy hy h1)
    · exact mO 4 18
    · exact mO 9 23
  intro B4 a4 W4 (S4 : Sta w 46 [(1, (.box 38 (SF [(Is (.float .f64 x)), (Is (.float .f64 y))]))), (2, (.box 38 (Is (.agg #[.float .f64 0, .float .f64 0]))))] [(5, (FL (some p0))), (6, (FL (some p1)))] _ _ _)
  refine wp_stmt_seq [.val (FL (some p0)), .val (FL (some p1)), .val (FL (some (mnP (q2 p0 p1) 1))), .val (FL (some p0)), .val (FL (some p1)), .val (FL (some (mxP (q2 p0 p1) 1))), .val (SF [(FL (loP (some (mnP (q2 p0 p1) 1)))), (FL (hiP (some (mxP (q2 p0 p1) 1))))]), .new (.box 38 (Is (.agg #[.float .f64 0, .float .f64 0]))), .put (.inr 7) (.box 38 (SF [(FL (loP (some (mnP (q2 p0 p1) 1)))), (FL (hiP (some (mxP (q2 p0 p1) 1))))]))] [.inr 0, .inr 1, .inl 7] [] follows S4 rfl (by kernel_rfl) ?_ ?_
  · repeat' refine And.intro ?_ ?_
    · trivial
    · exact mS 0 5
    · exact mS 1 6
    · exact owe_fmin2 rfl wA rfl (oO 0 24) (oO 1 25) rfl
    · exact mS 0 5
    · exact mS 1 6
    · exact owe_fmax2 rfl wA rfl (oO 3 27) (oO 4 28) rfl
    · exact cc2 wA (qO 2 26 rfl) (qO 5 29 rfl) (fresh_iv _ _) h_outward
    · exact owe_new rfl wA rfl rfl (fun ρ w => alloc_ival ρ _ w)
    · exact owe_put 7 rfl wA rfl (by kernel_rfl) rfl (oO 6 30) (stores_of strct_ival shp_i0 shp_iv) rfl
  intro B5 a5 W5 (S5 : Sta w 46 [(1, (.box 38 (SF [(Is (.float .f64 x)), (Is (.float .f64 y))]))), (2, (.box 38 (Is (.agg #[.float .f64 0, .float .f64 0])))), (7, (.box 38 (SF [(FL (loP (some (mnP (q2 p0 p1) 1)))), (FL (hiP (some (mxP (q2 p0 p1) 1))))])))] [] _ _ _)
  refine wp_seq ?_
  refine wp_stmt_seq [.val (Part a5 7 0), .val (FL (loP (some (mnP (q2 p0 p1) 1)))), kT, kT, .off, .off, .off, .val (Is (undef)), .off, .off, .off, .off, kT] [.inr 0, .inr 1, .inr 2] [.inl 12] follows S5 rfl (by kernel_rfl) ?_ ?_
  · repeat' refine And.intro ?_ ?_
    · trivial
    · exact owe_part rfl wA rfl (k := 2) rfl (by kernel_rfl) rfl (fun ρ w b h => part_ival0 ρ _ _ w b 0 h)
    · exact owe_pload rfl wA rfl (oO 0 31) (k := 2) rfl (by kernel_rfl) rfl (fun ρ w b u h1 h2 h3 => ploadI rfl load1_f64 ρ _ _ w b u h1 h2 h3)
    · exact owe_fcmp rfl wA rfl (oO 1 32) ((opnd_const _).imp (fl_is (by decide))) (lt_t (p := dnI (mnP (q2 p0 p1) 1)) hd) rfl
    · exact mO 2 33
    · exact oF 3 34
    · exact oF 3 34
    · exact oF 3 34
    · exact owe_offv 3 34 rfl rfl rfl (by kernel_rfl) rfl (by decide)
    · exact owe_offu 7 38 rfl rfl rfl (by kernel_rfl) rfl
    · exact owe_offu 7 38 rfl rfl rfl (by kernel_rfl) rfl
    · exact owe_offu 7 38 rfl rfl rfl (by kernel_rfl) rfl
    · exact oF 3 34
    · exact pT wA (oO 3 34) (opnd_const _)
  intro B6 a6 W6 (S6 : Sta w 46 [(1, (.box 38 (SF [(Is (.float .f64 x)), (Is (.float .f64 y))]))), (2, (.box 38 (Is (.agg #[.float .f64 0, .float .f64 0])))), (7, (.box 38 (SF [(FL (loP (some (mnP (q2 p0 p1) 1)))), (FL (hiP (some (mxP (q2 p0 p1) 1))))])))] [(43, bT)] _ _ _)
  refine wp_cond_true (S6.bool 0 43 rfl) ?_
  refine wp_stmt [.val (Part a6 7 0), .put (.inl 7) (.box 38 (SF [(FL (plc 0)), (FL (hiP (some (mxP (q2 p0 p1) 1))))]))] [.inr 0, .inr 1, .inr 2] [] follows S6 rfl (by kernel_rfl) ?_ ?_
  · refine ⟨⟨trivial, ?_⟩, ?_⟩
    · exact owe_part rfl wA rfl (k := 2) rfl (by kernel_rfl) rfl (fun ρ w b h => part_ival0 ρ _ _ w b 0 h)
    · exact owe_pput (f := 0) rfl wA rfl (oO 0 44) (k := 2) rfl (by kernel_rfl) ((opnd_const _).imp (fl_is (by decide))) flt_fl (Nat.le_of_ble_eq_true rfl) rfl
  intro B7 a7 W7 (S7 : Sta w 46 [(1, (.box 38 (SF [(Is (.float .f64 x)), (Is (.float .f64 y))]))), (2, (.box 38 (Is (.agg #[.float .f64 0, .float .f64 0])))), (7, (.box 38 (SF [(FL (plc 0)), (FL (hiP (some (mxP (q2 p0 p1) 1))))])))] [] _ _ _)
  refine thenN ?_
  refine wp_stmt_seq [.val (SF [(FL (plc 0)), (FL (hiP (some (mxP (q2 p0 p1) 1))))]), .put (.inl 2) (.box 38 (SF [(FL (plc 0)), (FL (hiP (some (mxP (q2 p0 p1) 1))))])), .val (iV 0)] [.inr 0, .inr 1, .inr 2] [.inl 2] follows S7 rfl (by kernel_rfl) ?_ ?_
  · refine ⟨⟨⟨trivial, ?_⟩, ?_⟩, ?_⟩
    · exact lod 2 wA (loads_of strct_ival shp_iv)
    · exact owe_set rfl wA rfl (k := 1) rfl (by kernel_rfl) (oO 0 45) (stores_of strct_ival shp_i0 shp_iv) rfl
    · exact mC
  intro B8 a8 W8 (S8 : Sta w 46 [(1, (.box 38 (SF [(Is (.float .f64 x)), (Is (.float .f64 y))]))), (2, (.box 38 (SF [(FL (plc 0)), (FL (hiP (some (mxP (q2 p0 p1) 1))))]))), (7, (.box 38 (SF [(FL (plc 0)), (FL (hiP (some (mxP (q2 p0 p1) 1))))])))] [(3, iV 0)] _ _ _)
  refine wp_ret ?_
  exact end_two S8 rfl (res_cell S8 1 2 rfl strct_ival shp_iv) (res_tmp S8 0 3 rfl)
set_option maxHeartbeats 1000000 in
theorem sqr_B (w : World) (x y : Nat) (hx : x < 18446744073709551616) (hy : y < 18446744073709551616) (h : okI x y = true) (px py p0 p1 : Int) (hpx : plc x = some px) (hpy : plc y = some py) (h0 : tmP x x = some p0) (h1 : tmP y y = some p1) (hd : ¬ dnI (mnP (q2 p0 p1) 1) < 0) (ha : px ≤ 0) (hb : 0 ≤ py) :
    Calls Tryz.prog 24 #[(.agg #[.float .f64 x, .float .f64 y])] w (Gives (TWO (IVN (plc 0) (hiP (some (mxP (q2 p0 p1) 1)))) (IS (.int .i64 0))) w) := by
  refine calls_sta (sl := [(0, (SF [(Is (.float .f64 x)), (Is (.float .f64 y))]))]) Tryz.func24 rfl Tryz.ntmps24 (by simp) (args_cons rfl (ix_has) args_nil) ?_
  intro a0 S0
  refine wp_stmt_seq [.new (.box 38 (SF [(Is (.float .f64 x)), (Is (.float .f64 y))])), .new (.box 38 (Is (.agg #[.float .f64 0, .float .f64 0]))), .val (iV 0)] [.inl 0, .inl 1] [] follows S0 rfl (by kernel_rfl) ?_ ?_
  · refine ⟨⟨⟨trivial, ?_⟩, ?_⟩, ?_⟩
    · exact owe_box rfl wA rfl (oS 0 0) rfl (fun ρ w h => box_ival shp_iv ρ _ _ w h)
    · exact owe_new rfl wA rfl rfl (fun ρ w => alloc_ival ρ _ w)
    · exact mC
  intro B1 a1 W1 (S1 : Sta w 46 [(1, (.box 38 (SF [(Is (.float .f64 x)), (Is (.float .f64 y))]))), (2, (.box 38 (Is (.agg #[.float .f64 0, .float .f64 0]))))] [] _ _ _)
  refine wp_seq ?_
  refine wp_stmt_seq [.val (SF [(Is (.float .f64 x)), (Is (.float .f64 y))]), .val (iV 0), .val (iV 0)] [.inr 0, .inr 1] [.inl 2] follows S1 rfl (by kernel_rfl) ?_ ?_
  · refine ⟨⟨⟨trivial, ?_⟩, ?_⟩, ?_⟩
    · exact lod 0 wA (loads_of strct_ival shp_iv)
    · exact cc1 wA (qO 0 8 rfl) (fresh_is _) (ix1 (fun w => ivalid_t w _ _ hx hy h))
    · exact mO 1 9
  intro B2 a2 W2 (S2 : Sta w 46 [(1, (.box 38 (SF [(Is (.float .f64 x)), (Is (.float .f64 y))]))), (2, (.box 38 (Is (.agg #[.float .f64 0, .float .f64 0]))))] [(4, iV 0)] _ _ _)
  refine wp_stmt_seq [.val (iV 0), kF] [.inr 0, .inr 1] [.inl 1, .inr 0] follows S2 rfl (by kernel_rfl) ?_ ?_
  · refine ⟨⟨trivial, ?_⟩, ?_⟩
    · exact mS 0 4
    · exact b_neq_errno_f wA (oO 0 10) (opnd_const _) (h := by decide)
  intro B3 a3 W3 (S3 : Sta w 46 [(1, (.box 38 (SF [(Is (.float .f64 x)), (Is (.float .f64 y))]))), (2, (.box 38 (Is (.agg #[.float .f64 0, .float .f64 0]))))] [(11, bF), (4, iV 0)] _ _ _)
  refine wp_cond_false (S3.bool 0 11 rfl) ?_
  refine wp_skip ?_
  refine thenN ?_
  refine wp_stmt_seq [.val (Part a3 1 0), .val (Is (.float .f64 x)), .val (Part a3 1 0), .val (Is (.float .f64 x)), .val (FL (some p0)), .val (Part a3 1 1), .val (Is (.float .f64 y)), .val (Part a3 1 1), .val (Is (.float .f64 y)), .val (FL (some p1)), .val (FL (some p0)), .val (FL (some p1))] [.inr 0, .inr 1] [.inl 10, .inl 11] follows S3 rfl (by kernel_rfl) ?_ ?_
  · repeat' refine And.intro ?_ ?_
    · trivial
    · exact owe_part rfl wA rfl (k := 0) rfl (by kernel_rfl) rfl (fun ρ w b h => part_ival0 ρ _ _ w b 0 h)
    · exact owe_pload rfl wA rfl (oO 0 14) (k := 0) rfl (by kernel_rfl) rfl (fun ρ w b u h1 h2 h3 => ploadI rfl load1_f64 ρ _ _ w b u h1 h2 h3)
    · exact owe_part rfl wA rfl (k := 0) rfl (by kernel_rfl) rfl (fun ρ w b h => part_ival0 ρ _ _ w b 0 h)
    · exact owe_pload rfl wA rfl (oO 2 16) (k := 0) rfl (by kernel_rfl) rfl (fun ρ w b u h1 h2 h3 => ploadI rfl load1_f64 ρ _ _ w b u h1 h2 h3)
    · exact cc2 wA (qO 1 15 rfl) (qO 3 17 rfl) (fresh_fl _) (h_it hx hx h0)
    · exact owe_part rfl wA rfl (k := 0) rfl (by kernel_rfl) rfl (fun ρ w b h => part_ival1 ρ _ _ w b 0 h)
    · exact owe_pload rfl wA rfl (oO 5 19) (k := 0) rfl (by kernel_rfl) rfl (fun ρ w b u h1 h2 h3 => ploadI rfl load1_f64 ρ _ _ w b u h1 h2 h3)
    · exact owe_part rfl wA rfl (k := 0) rfl (by kernel_rfl) rfl (fun ρ w b h => part_ival1 ρ _ _ w b 0 h)
    · exact owe_pload rfl wA rfl (oO 7 21) (k := 0) rfl (by kernel_rfl) rfl (fun ρ w b u h1 h2 h3 => ploadI rfl load1_f64 ρ _ _ w b u h1 h2 h3)
    · exact cc2 wA (qO 6 20 rfl) (qO 8 22 rfl) (fresh_fl _) (h_it hy hy h1)
    · exact mO 4 18
    · exact mO 9 23
  intro B4 a4 W4 (S4 : Sta w 46 [(1, (.box 38 (SF [(Is (.float .f64 x)), (Is (.float .f64 y))]))), (2, (.box 38 (Is (.agg #[.float .f64 0, .float .f64 0]))))] [(5, (FL (some p0))), (6, (FL (some p1)))] _ _ _)
  refine wp_stmt_seq [.val (FL (some p0)), .val (FL (some p1)), .val (FL (some (mnP (q2 p0 p1) 1))), .val (FL (some p0)), .val (FL (some p1)), .val (FL (some (mxP (q2 p0 p1) 1))), .val (SF [(FL (loP (some (mnP (q2 p0 p1) 1)))), (FL (hiP (some (mxP (q2 p0 p1) 1))))]), .new (.box 38 (Is (.agg #[.float .f64 0, .float .f64 0]))), .put (.inr 7) (.box 38 (SF [(FL (loP (some (mnP (q2 p0 p1) 1)))), (FL (hiP (some (mxP (q2 p0 p1) 1))))]))] [.inr 0, .inr 1, .inl 7] [] follows S4 rfl (by kernel_rfl) ?_ ?_
  · repeat' refine And.intro ?_ ?_
    · trivial
    · exact mS 0 5
    · exact mS 1 6
    · exact owe_fmin2 rfl wA rfl (oO 0 24) (oO 1 25) rfl
    · exact mS 0 5
    · exact mS 1 6
    · exact owe_fmax2 rfl wA rfl (oO 3 27) (oO 4 28) rfl
    · exact cc2 wA (qO 2 26 rfl) (qO 5 29 rfl) (fresh_iv _ _) h_outward
    · exact owe_new rfl wA rfl rfl (fun ρ w => alloc_ival ρ _ w)
    · exact owe_put 7 rfl wA rfl (by kernel_rfl) rfl (oO 6 30) (stores_of strct_ival shp_i0 shp_iv) rfl
  intro B5 a5 W5 (S5 : Sta w 46 [(1, (.box 38 (SF [(Is (.float .f64 x)), (Is (.float .f64 y))]))), (2, (.box 38 (Is (.agg #[.float .f64 0, .float .f64 0])))), (7, (.box 38 (SF [(FL (loP (some (mnP (q2 p0 p1) 1)))), (FL (hiP (some (mxP (q2 p0 p1) 1))))])))] [] _ _ _)
  refine wp_seq ?_
  refine wp_stmt_seq [.val (Part a5 7 0), .val (FL (loP (some (mnP (q2 p0 p1) 1)))), kF, kF, .val (Part a5 1 0), .val (Is (.float .f64 x)), kT, kT, .val (Part a5 1 1), .val (Is (.float .f64 y)), kT, kT, kT] [.inr 0, .inr 1, .inr 2] [.inl 12] follows S5 rfl (by kernel_rfl) ?_ ?_
  · repeat' refine And.intro ?_ ?_
    · trivial
    · exact owe_part rfl wA rfl (k := 2) rfl (by kernel_rfl) rfl (fun ρ w b h => part_ival0 ρ _ _ w b 0 h)
    · exact owe_pload rfl wA rfl (oO 0 31) (k := 2) rfl (by kernel_rfl) rfl (fun ρ w b u h1 h2 h3 => ploadI rfl load1_f64 ρ _ _ w b u h1 h2 h3)
    · exact owe_fcmp rfl wA rfl (oO 1 32) ((opnd_const _).imp (fl_is (by decide))) (lt_f (p := dnI (mnP (q2 p0 p1) 1)) hd) rfl
    · exact mO 2 33
    · exact owe_part rfl (wI 3 34) rfl (k := 0) rfl (by kernel_rfl) rfl (fun ρ w b h => part_ival0 ρ _ _ w b 0 h)
    · exact owe_pload rfl (wI 3 34) rfl (oO 4 35) (k := 0) rfl (by kernel_rfl) rfl (fun ρ w b u h1 h2 h3 => ploadI rfl load1_f64 ρ _ _ w b u h1 h2 h3)
    · exact owe_fcmp rfl (wI 3 34) rfl ((oO 5 36).imp (fl_is hx)) ((opnd_const _).imp (fl_is (by decide))) (le0_t hpx ha) rfl
    · exact mW (wI 3 34) (oO 6 37)
    · exact owe_part rfl (wI 7 38) rfl (k := 0) rfl (by kernel_rfl) rfl (fun ρ w b h => part_ival1 ρ _ _ w b 0 h)
    · exact owe_pload rfl (wI 7 38) rfl (oO 8 39) (k := 0) rfl (by kernel_rfl) rfl (fun ρ w b u h1 h2 h3 => ploadI rfl load1_f64 ρ _ _ w b u h1 h2 h3)
    · exact owe_fcmp rfl (wI 7 38) rfl ((oO 9 40).imp (fl_is hy)) ((opnd_const _).imp (fl_is (by decide))) (ge0_t hpy hb) rfl
    · exact pT (wI 3 34) (oO 7 38) (oO 10 41)
    · exact pF wA (oO 3 34) (oO 11 42)
  intro B6 a6 W6 (S6 : Sta w 46 [(1, (.box 38 (SF [(Is (.float .f64 x)), (Is (.float .f64 y))]))), (2, (.box 38 (Is (.agg #[.float .f64 0, .float .f64 0])))), (7, (.box 38 (SF [(FL (loP (some (mnP (q2 p0 p1) 1)))), (FL (hiP (some (mxP (q2 p0 p1) 1))))])))] [(43, bT)] _ _ _)
  refine wp_cond_true (S6.bool 0 43 rfl) ?_
  refine wp_stmt [.val (Part a6 7 0), .put (.inl 7) (.box 38 (SF [(FL (plc 0)), (FL (hiP (some (mxP (q2 p0 p1) 1))))]))] [.inr 0, .inr 1, .inr 2] [] follows S6 rfl (by kernel_rfl) ?_ ?_
  · refine ⟨⟨trivial, ?_⟩, ?_⟩
    · exact owe_part rfl wA rfl (k := 2) rfl (by kernel_rfl) rfl (fun ρ w b h => part_ival0 ρ _ _ w b 0 h)
    · exact owe_pput (f := 0) rfl wA rfl (oO 0 44) (k := 2) rfl (by kernel_rfl) ((opnd_const _).imp (fl_is (by decide))) flt_fl (Nat.le_of_ble_eq_true rfl) rfl
  intro B7 a7 W7 (S7 : Sta w 46 [(1, (.box 38 (SF [(Is (.float .f64 x)), (Is (.float .f64 y))]))), (2, (.box 38 (Is (.agg #[.float .f64 0, .float .f64 0])))), (7, (.box 38 (SF [(FL (plc 0)), (FL (hiP (some (mxP (q2 p0 p1) 1))))])))] [] _ _ _)
  refine thenN ?_
  refine wp_stmt_seq [.val (SF [(FL (plc 0)), (FL (hiP (some (mxP (q2 p0 p1) 1))))]), .put (.inl 2) (.box 38 (SF [(FL (plc 0)), (FL (hiP (some (mxP (q2 p0 p1) 1))))])), .val (iV 0)] [.inr 0, .inr 1, .inr 2] [.inl 2] follows S7 rfl (by kernel_rfl) ?_ ?_
  · refine ⟨⟨⟨trivial, ?_⟩, ?_⟩, ?_⟩
    · exact lod 2 wA (loads_of strct_ival shp_iv)
    · exact owe_set rfl wA rfl (k := 1) rfl (by kernel_rfl) (oO 0 45) (stores_of strct_ival shp_i0 shp_iv) rfl
    · exact mC
  intro B8 a8 W8 (S8 : Sta w 46 [(1, (.box 38 (SF [(Is (.float .f64 x)), (Is (.float .f64 y))]))), (2, (.box 38 (SF [(FL (plc 0)), (FL (hiP (some (mxP (q2 p0 p1) 1))))]))), (7, (.box 38 (SF [(FL (plc 0)), (FL (hiP (some (mxP (q2 p0 p1) 1))))])))] [(3, iV 0)] _ _ _)
  refine wp_ret ?_
  exact end_two S8 rfl (res_cell S8 1 2 rfl strct_ival shp_iv) (res_tmp S8 0 3 rfl)
set_option maxHeartbeats 1000000 in
theorem sqr_C (w : World) (x y : Nat) (hx : x < 18446744073709551616) (hy : y < 18446744073709551616) (h : okI x y = true) (px py p0 p1 : Int) (hpx : plc x = some px) (hpy : plc y = some py) (h0 : tmP x x = some p0) (h1 : tmP y y = some p1) (hd : ¬ dnI (mnP (q2 p0 p1) 1) < 0) (ha : px ≤ 0) (hb : py < 0) :
    Calls Tryz.prog 24 #[(.agg #[.float .f64 x, .float .f64 y])] w (Gives (TWO (IVN (loP (some (mnP (q2 p0 p1) 1))) (hiP (some (mxP (q2 p0 p1) 1)))) (IS (.int .i64 0))) w) := by
  refine calls_sta (sl := [(0, (SF [(Is (.float .f64 x)), (Is (.float .f64 y))]))]) Tryz.func24 rfl Tryz.ntmps24 (by simp) (args_cons rfl (ix_has) args_nil) ?_
  intro a0 S0
  refine wp_stmt_seq [.new (.box 38 (SF [(Is (.float .f64 x)), (Is (.float .f64 y))])), .new (.box 38 (Is (.agg #[.float .f64 0, .float .f64 0]))), .val (iV 0)] [.inl 0, .inl 1] [] follows S0 rfl (by kernel_rfl) ?_ ?_
  · refine ⟨⟨⟨trivial, ?_⟩, ?_⟩, ?_⟩
    · exact owe_box rfl wA rfl (oS 0 0) rfl (fun ρ w h => box_ival shp_iv ρ _ _ w h)
    · exact owe_new rfl wA rfl rfl (fun ρ w => alloc_ival ρ _ w)
    · exact mC
  intro B1 a1 W1 (S1 : Sta w 46 [(1, (.box 38 (SF [(Is (.float .f64 x)), (Is (.float .f64 y))]))), (2, (.box 38 (Is (.agg #[.float .f64 0, .float .f64 0]))))] [] _ _ _)
  refine wp_seq ?_
  refine wp_stmt_seq [.val (SF [(Is (.float .f64 x)), (Is (.float .f64 y))]), .val (iV 0), .val (iV 0)] [.inr 0, .inr 1] [.inl 2] follows S1 rfl (by kernel_rfl) ?_ ?_
  · refine ⟨⟨⟨trivial, ?_⟩, ?_⟩, ?_⟩
    · exact lod 0 wA (loads_of strct_ival shp_iv)
    · exact cc1 wA (qO 0 8 rfl) (fresh_is _) (ix1 (fun w => ivalid_t w _ _ hx hy h))
    · exact mO 1 9
  intro B2 a2 W2 (S2 : Sta w 46 [(1, (.box 38 (SF [(Is (.float .f64 x)), (Is (.float .f64 y))]))), (2, (.box 38 (Is (.agg #[.float .f64 0, .float .f64 0]))))] [(4, iV 0)] _ _ _)
  refine wp_stmt_seq [.val (iV 0), kF] [.inr 0, .inr 1] [.inl 1, .inr 0] follows S2 rfl (by kernel_rfl) ?_ ?_
  · refine ⟨⟨trivial, ?_⟩, ?_⟩
    · exact mS 0 4
    · exact b_neq_errno_f wA (oO 0 10) (opnd_const _) (h := by decide)
  intro B3 a3 W3 (S3 : Sta w 46 [(1, (.box 38 (SF [(Is (.float .f64 x)), (Is (.float .f64 y))]))), (2, (.box 38 (Is (.agg #[.float .f64 0, .float .f64 0]))))] [(11, bF), (4, iV 0)] _ _ _)
  refine wp_cond_false (S3.bool 0 11 rfl) ?_
  refine wp_skip ?_
  refine thenN ?_
  refine wp_stmt_seq [.val (Part a3 1 0), .val (Is (.float .f64 x)), .val (Part a3 1 0), .val (Is (.float .f64 x)), .val (FL (some p0)), .val (Part a3 1 1), .val (Is (.float .f64 y)), .val (Part a3 1 1), .val (Is (.float .f64 y)), .val (FL (some p1)), .val (FL (some p0)), .val (FL (some p1))] [.inr 0, .inr 1] [.inl 10, .inl 11] follows S3 rfl (by kernel_rfl) ?_ ?_
  · repeat' refine And.intro ?_ ?_
    · trivial
    · exact owe_part rfl wA rfl (k := 0) rfl (by kernel_rfl) rfl (fun ρ w b h => part_ival0 ρ _ _ w b 0 h)
    · exact owe_pload rfl wA rfl (oO 0 14) (k := 0) rfl (by kernel_rfl) rfl (fun ρ w b u h1 h2 h3 => ploadI rfl load1_f64 ρ _ _ w b u h1 h2 h3)
    · exact owe_part rfl wA rfl (k := 0) rfl (by kernel_rfl) rfl (fun ρ w b h => part_ival0 ρ _ _ w b 0 h)
    · exact owe_pload rfl wA rfl (oO 2 16) (k := 0) rfl (by kernel_rfl) rfl (fun ρ w b u h1 h2 h3 => ploadI rfl load1_f64 ρ _ _ w b u h1 h2 h3)
    · exact cc2 wA (qO 1 15 rfl) (qO 3 17 rfl) (fresh_fl _) (h_it hx hx h0)
    · exact owe_part rfl wA rfl (k := 0) rfl (by kernel_rfl) rfl (fun ρ w b h => part_ival1 ρ _ _ w b 0 h)
    · exact owe_pload rfl wA rfl (oO 5 19) (k := 0) rfl (by kernel_rfl) rfl (fun ρ w b u h1 h2 h3 => ploadI rfl load1_f64 ρ _ _ w b u h1 h2 h3)
    · exact owe_part rfl wA rfl (k := 0) rfl (by kernel_rfl) rfl (fun ρ w b h => part_ival1 ρ _ _ w b 0 h)
    · exact owe_pload rfl wA rfl (oO 7 21) (k := 0) rfl (by kernel_rfl) rfl (fun ρ w b u h1 h2 h3 => ploadI rfl load1_f64 ρ _ _ w b u h1 h2 h3)
    · exact cc2 wA (qO 6 20 rfl) (qO 8 22 rfl) (fresh_fl _) (h_it hy hy h1)
    · exact mO 4 18
    · exact mO 9 23
  intro B4 a4 W4 (S4 : Sta w 46 [(1, (.box 38 (SF [(Is (.float .f64 x)), (Is (.float .f64 y))]))), (2, (.box 38 (Is (.agg #[.float .f64 0, .float .f64 0]))))] [(5, (FL (some p0))), (6, (FL (some p1)))] _ _ _)
  refine wp_stmt_seq [.val (FL (some p0)), .val (FL (some p1)), .val (FL (some (mnP (q2 p0 p1) 1))), .val (FL (some p0)), .val (FL (some p1)), .val (FL (some (mxP (q2 p0 p1) 1))), .val (SF [(FL (loP (some (mnP (q2 p0 p1) 1)))), (FL (hiP (some (mxP (q2 p0 p1) 1))))]), .new (.box 38 (Is (.agg #[.float .f64 0, .float .f64 0]))), .put (.inr 7) (.box 38 (SF [(FL (loP (some (mnP (q2 p0 p1) 1)))), (FL (hiP (some (mxP (q2 p0 p1) 1))))]))] [.inr 0, .inr 1, .inl 7] [] follows S4 rfl (by kernel_rfl) ?_ ?_
  · repeat' refine And.intro ?_ ?_
    · trivial
    · exact mS 0 5
    · exact mS 1 6
    · exact owe_fmin2 rfl wA rfl (oO 0 24) (oO 1 25) rfl
    · exact mS 0 5
    · exact mS 1 6
    · exact owe_fmax2 rfl wA rfl (oO 3 27) (oO 4 28) rfl
    · exact cc2 wA (qO 2 26 rfl) (qO 5 29 rfl) (fresh_iv _ _) h_outward
    · exact owe_new rfl wA rfl rfl (fun ρ w => alloc_ival ρ _ w)
    · exact owe_put 7 rfl wA rfl (by kernel_rfl) rfl (oO 6 30) (stores_of strct_ival shp_i0 shp_iv) rfl
  intro B5 a5 W5 (S5 : Sta w 46 [(1, (.box 38 (SF [(Is (.float .f64 x)), (Is (.float .f64 y))]))), (2, (.box 38 (Is (.agg #[.float .f64 0, .float .f64 0])))), (7, (.box 38 (SF [(FL (loP (some (mnP (q2 p0 p1) 1)))), (FL (hiP (some (mxP (q2 p0 p1) 1))))])))] [] _ _ _)
  refine wp_seq ?_
  refine wp_stmt_seq [.val (Part a5 7 0), .val (FL (loP (some (mnP (q2 p0 p1) 1)))), kF, kF, .val (Part a5 1 0), .val (Is (.float .f64 x)), kT, kT, .val (Part a5 1 1), .val (Is (.float .f64 y)), kF, kF, kF] [.inr 0, .inr 1, .inr 2] [.inl 12] follows S5 rfl (by kernel_rfl) ?_ ?_
  · repeat' refine And.intro ?_ ?_
    · trivial
    · exact owe_part rfl wA rfl (k := 2) rfl (by kernel_rfl) rfl (fun ρ w b h => part_ival0 ρ _ _ w b 0 h)
    · exact owe_pload rfl wA rfl (oO 0 31) (k := 2) rfl (by kernel_rfl) rfl (fun ρ w b u h1 h2 h3 => ploadI rfl load1_f64 ρ _ _ w b u h1 h2 h3)
    · exact owe_fcmp rfl wA rfl (oO 1 32) ((opnd_const _).imp (fl_is (by decide))) (lt_f (p := dnI (mnP (q2 p0 p1) 1)) hd) rfl
    · exact mO 2 33
    · exact owe_part rfl (wI 3 34) rfl (k := 0) rfl (by kernel_rfl) rfl (fun ρ w b h => part_ival0 ρ _ _ w b 0 h)
    · exact owe_pload rfl (wI 3 34) rfl (oO 4 35) (k := 0) rfl (by kernel_rfl) rfl (fun ρ w b u h1 h2 h3 => ploadI rfl load1_f64 ρ _ _ w b u h1 h2 h3)
    · exact owe_fcmp rfl (wI 3 34) rfl ((oO 5 36).imp (fl_is hx)) ((opnd_const _).imp (fl_is (by decide))) (le0_t hpx ha) rfl
    · exact mW (wI 3 34) (oO 6 37)
    · exact owe_part rfl (wI 7 38) rfl (k := 0) rfl (by kernel_rfl) rfl (fun ρ w b h => part_ival1 ρ _ _ w b 0 h)
    · exact owe_pload rfl (wI 7 38) rfl (oO 8 39) (k := 0) rfl (by kernel_rfl) rfl (fun ρ w b u h1 h2 h3 => ploadI rfl load1_f64 ρ _ _ w b u h1 h2 h3)
    · exact owe_fcmp rfl (wI 7 38) rfl ((oO 9 40).imp (fl_is hy)) ((opnd_const _).imp (fl_is (by decide))) (ge0_f hpy hb) rfl
    · exact pT (wI 3 34) (oO 7 38) (oO 10 41)
    · exact pF wA (oO 3 34) (oO 11 42)
  intro B6 a6 W6 (S6 : Sta w 46 [(1, (.box 38 (SF [(Is (.float .f64 x)), (Is (.float .f64 y))]))), (2, (.box 38 (Is (.agg #[.float .f64 0, .float .f64 0])))), (7, (.box 38 (SF [(FL (loP (some (mnP (q2 p0 p1) 1)))), (FL (hiP (some (mxP (q2 p0 p1) 1))))])))] [(43, bF)] _ _ _)
  refine wp_cond_false (S6.bool 0 43 rfl) ?_
  refine wp_skip ?_
  refine thenN ?_
  refine wp_stmt_seq [.val (SF [(FL (loP (some (mnP (q2 p0 p1) 1)))), (FL (hiP (some (mxP (q2 p0 p1) 1))))]), .put (.inl 2) (.box 38 (SF [(FL (loP (some (mnP (q2 p0 p1) 1)))), (FL (hiP (some (mxP (q2 p0 p1) 1))))])), .val (iV 0)] [.inr 0, .inr 1, .inr 2] [.inl 2] follows S6 rfl (by kernel_rfl) ?_ ?_
  · refine ⟨⟨⟨trivial, ?_⟩, ?_⟩, ?_⟩
    · exact lod 2 wA (loads_of strct_ival shp_iv)
    · exact owe_set rfl wA rfl (k := 1) rfl (by kernel_rfl) (oO 0 45) (stores_of strct_ival shp_i0 shp_iv) rfl
    · exact mC
  intro B7 a7 W7 (S7 : Sta w 46 [(1, (.box 38 (SF [(Is (.float .f64 x)), (Is (.float .f64 y))]))), (2, (.box 38 (SF [(FL (loP (some (mnP (q2 p0 p1) 1)))), (FL (hiP (some (mxP (q2 p0 p1) 1))))]))), (7, (.box 38 (SF [(FL (loP (some (mnP (q2 p0 p1) 1)))), (FL (hiP (some (mxP (q2 p0 p1) 1))))])))] [(3, iV 0)] _ _ _)
  refine wp_ret ?_
  exact end_two S7 rfl (res_cell S7 1 2 rfl strct_ival shp_iv) (res_tmp S7 0 3 rfl)
set_option maxHeartbeats 1000000 in
theorem sqr_D (w : World) (x y : Nat) (hx : x < 18446744073709551616) (hy : y < 18446744073709551616) (h : okI x y = true) (px py p0 p1 : Int) (hpx : plc x = some px) (hpy : plc y = some py) (h0 : tmP x x = some p0) (h1 : tmP y y = some p1) (hd : ¬ dnI (mnP (q2 p0 p1) 1) < 0) (ha : 0 < px) :
    Calls Tryz.prog 24 #[(.agg #[.float .f64 x, .float .f64 y])] w (Gives (TWO (IVN (loP (some (mnP (q2 p0 p1) 1))) (hiP (some (mxP (q2 p0 p1) 1)))) (IS (.int .i64 0))) w) := by
  refine calls_sta (sl := [(0, (SF [(Is (.float .f64 x)), (Is (.float .f64 y))]))]) Tryz.func24 rfl Tryz.ntmps24 (by simp) (args_cons rfl (ix_has) args_nil) ?_
  intro a0 S0
  refine wp_stmt_seq [.new (.box 38 (SF [(Is (.float .f64 x)), (Is (.float .f64 y))])), .new (.box 38 (Is (.agg #[.float .f64 0, .float .f64 0]))), .val (iV 0)] [.inl 0, .inl 1] [] follows S0 rfl (by kernel_rfl) ?_ ?_
  · refine ⟨⟨⟨trivial, ?_⟩, ?_⟩, ?_⟩
    · exact owe_box rfl wA rfl (oS 0 0) rfl (fun ρ w h => box_ival shp_iv ρ _ _ w h)
    · exact owe_new rfl wA rfl rfl (fun ρ w => alloc_ival ρ _ w)
    · exact mC
  intro B1 a1 W1 (S1 : Sta w 46 [(1, (.box 38 (SF [(Is (.float .f64 x)), (Is (.float .f64 y))]))), (2, (.box 38 (Is (.agg #[.float .f64 0, .float .f64 0]))))] [] _ _ _)
  refine wp_seq ?_
  refine wp_stmt_seq [.val (SF [(Is (.float .f64 x)), (Is (.float .f64 y))]), .val (iV 0), .val (iV 0)] [.inr 0, .inr 1] [.inl 2] follows S1 rfl (by kernel_rfl) ?_ ?_
  · refine ⟨⟨⟨trivial, ?_⟩, ?_⟩, ?_⟩
    · exact lod 0 wA (loads_of strct_ival shp_iv)
    · exact cc1 wA (qO 0 8 rfl) (fresh_is _) (ix1 (fun w => ivalid_t w _ _ hx hy h))
    · exact mO 1 9
  intro B2 a2 W2 (S2 : Sta w 46 [(1, (.box 38 (SF [(Is (.float .f64 x)), (Is (.float .f64 y))]))), (2, (.box 38 (Is (.agg #[.float .f64 0, .float .f64 0]))))] [(4, iV 0)] _ _ _)
  refine wp_stmt_seq [.val (iV 0), kF] [.inr 0, .inr 1] [.inl 1, .inr 0] follows S2 rfl (by kernel_rfl) ?_ ?_
  · refine ⟨⟨trivial, ?_⟩, ?_⟩
    · exact mS 0 4
    · exact b_neq_errno_f wA (oO 0 10) (opnd_const _) (h := by decide)
  intro B3 a3 W3 (S3 : Sta w 46 [(1, (.box 38 (SF [(Is (.float .f64 x)), (Is (.float .f64 y))]))), (2, (.box 38 (Is (.agg #[.float .f64 0, .float .f64 0]))))] [(11, bF), (4, iV 0)] _ _ _)
  refine wp_cond_false (S3.bool 0 11 rfl) ?_
  refine wp_skip ?_
  refine thenN ?_
  refine wp_stmt_seq [.val (Part a3 1 0), .val (Is (.float .f64 x)), .val (Part a3 1 0), .val (Is (.float .f64 x)), .val (FL (some p0)), .val (Part a3 1 1), .val (Is (.float .f64 y)), .val (Part a3 1 1), .val (Is (.float .f64 y)), .val (FL (some p1)), .val (FL (some p0)), .val (FL (some p1))] [.inr 0, .inr 1] [.inl 10, .inl 11] follows S3 rfl (by kernel_rfl) ?_ ?_
  · repeat' refine And.intro ?_ ?_
    · trivial
    · exact owe_part rfl wA rfl (k := 0) rfl (by kernel_rfl) rfl (fun ρ w b h => part_ival0 ρ _ _ w b 0 h)
    · exact owe_pload rfl wA rfl (oO 0 14) (k := 0) rfl (by kernel_rfl) rfl (fun ρ w b u h1 h2 h3 => ploadI rfl load1_f64 ρ _ _ w b u h1 h2 h3)
    · exact owe_part rfl wA rfl (k := 0) rfl (by kernel_rfl) rfl (fun ρ w b h => part_ival0 ρ _ _ w b 0 h)
    · exact owe_pload rfl wA rfl (oO 2 16) (k := 0) rfl (by kernel_rfl) rfl (fun ρ w b u h1 h2 h3 => ploadI rfl load1_f64 ρ _ _ w b u h1 h2 h3)
    · exact cc2 wA (qO 1 15 rfl) (qO 3 17 rfl) (fresh_fl _) (h_it hx hx h0)
    · exact owe_part rfl wA rfl (k := 0) rfl (by kernel_rfl) rfl (fun ρ w b h => part_ival1 ρ _ _ w b 0 h)
    · exact owe_pload rfl wA rfl (oO 5 19) (k := 0) rfl (by kernel_rfl) rfl (fun ρ w b u h1 h2 h3 => ploadI rfl load1_f64 ρ _ _ w b u h1 h2 h3)
    · exact owe_part rfl wA rfl (k := 0) rfl (by kernel_rfl) rfl (fun ρ w b h => part_ival1 ρ _ _ w b 0 h)
    · exact owe_pload rfl wA rfl (oO 7 21) (k := 0) rfl (by kernel_rfl) rfl (fun ρ w b u h1 h2 h3 => ploadI rfl load1_f64 ρ _ _ w b u h1 h2 h3)
    · exact cc2 wA (qO 6 20 rfl) (qO 8 22 rfl) (fresh_fl _) (h_it hy hy h1)
    · exact mO 4 18
    · exact mO 9 23
  intro B4 a4 W4 (S4 : Sta w 46 [(1, (.box 38 (SF [(Is (.float .f64 x)), (Is (.float .f64 y))]))), (2, (.box 38 (Is (.agg #[.float .f64 0, .float .f64 0]))))] [(5, (FL (some p0))), (6, (FL (some p1)))] _ _ _)
  refine wp_stmt_seq [.val (FL (some p0)), .val (FL (some p1)), .val (FL (some (mnP (q2 p0 p1) 1))), .val (FL (some p0)), .val (FL (some p1)), .val (FL (some (mxP (q2 p0 p1) 1))), .val (SF [(FL (loP (some (mnP (q2 p0 p1) 1)))), (FL (hiP (some (mxP (q2 p0 p1) 1))))]), .new (.box 38 (Is (.agg #[.float .f64 0, .float .f64 0]))), .put (.inr 7) (.box 38 (SF [(FL (loP (some (mnP (q2 p0 p1) 1)))), (FL (hiP (some (mxP (q2 p0 p1) 1))))]))] [.inr 0, .inr 1, .inl 7] [] follows S4 rfl (by kernel_rfl) ?_ ?_
  · repeat' refine And.intro ?_ ?_
    · trivial
    · exact mS 0 5
    · exact mS 1 6
    · exact owe_fmin2 rfl wA rfl (oO 0 24) (oO 1 25) rfl
    · exact mS 0 5
    · exact mS 1 6
    · exact owe_fmax2 rfl wA rfl (oO 3 27) (oO 4 28) rfl
    · exact cc2 wA (qO 2 26 rfl) (qO 5 29 rfl) (fresh_iv _ _) h_outward
    · exact owe_new rfl wA rfl rfl (fun ρ w => alloc_ival ρ _ w)
    · exact owe_put 7 rfl wA rfl (by kernel_rfl) rfl (oO 6 30) (stores_of strct_ival shp_i0 shp_iv) rfl
  intro B5 a5 W5 (S5 : Sta w 46 [(1, (.box 38 (SF [(Is (.float .f64 x)), (Is (.float .f64 y))]))), (2, (.box 38 (Is (.agg #[.float .f64 0, .float .f64 0])))), (7, (.box 38 (SF [(FL (loP (some (mnP (q2 p0 p1) 1)))), (FL (hiP (some (mxP (q2 p0 p1) 1))))])))] [] _ _ _)
  refine wp_seq ?_
  refine wp_stmt_seq [.val (Part a5 7 0), .val (FL (loP (some (mnP (q2 p0 p1) 1)))), kF, kF, .val (Part a5 1 0), .val (Is (.float .f64 x)), kF, kF, .off, .off, .off, kF, kF] [.inr 0, .inr 1, .inr 2] [.inl 12] follows S5 rfl (by kernel_rfl) ?_ ?_
  · repeat' refine And.intro ?_ ?_
    · trivial
    · exact owe_part rfl wA rfl (k := 2) rfl (by kernel_rfl) rfl (fun ρ w b h => part_ival0 ρ _ _ w b 0 h)
    · exact owe_pload rfl wA rfl (oO 0 31) (k := 2) rfl (by kernel_rfl) rfl (fun ρ w b u h1 h2 h3 => ploadI rfl load1_f64 ρ _ _ w b u h1 h2 h3)
    · exact owe_fcmp rfl wA rfl (oO 1 32) ((opnd_const _).imp (fl_is (by decide))) (lt_f (p := dnI (mnP (q2 p0 p1) 1)) hd) rfl
    · exact mO 2 33
    · exact owe_part rfl (wI 3 34) rfl (k := 0) rfl (by kernel_rfl) rfl (fun ρ w b h => part_ival0 ρ _ _ w b 0 h)
    · exact owe_pload rfl (wI 3 34) rfl (oO 4 35) (k := 0) rfl (by kernel_rfl) rfl (fun ρ w b u h1 h2 h3 => ploadI rfl load1_f64 ρ _ _ w b u h1 h2 h3)
    · exact owe_fcmp rfl (wI 3 34) rfl ((oO 5 36).imp (fl_is hx)) ((opnd_const _).imp (fl_is (by decide))) (le0_f hpx ha) rfl
    · exact mW (wI 3 34) (oO 6 37)
    · exact oF 7 38
    · exact oF 7 38
    · exact oF 7 38
    · exact pF (wI 3 34) (oO 7 38) (opnd_const _)
    · exact pF wA (oO 3 34) (oO 11 42)
  intro B6 a6 W6 (S6 : Sta w 46 [(1, (.box 38 (SF [(Is (.float .f64 x)), (Is (.float .f64 y))]))), (2, (.box 38 (Is (.agg #[.float .f64 0, .float .f64 0])))), (7, (.box 38 (SF [(FL (loP (some (mnP (q2 p0 p1) 1)))), (FL (hiP (some (mxP (q2 p0 p1) 1))))])))] [(43, bF)] _ _ _)
  refine wp_cond_false (S6.bool 0 43 rfl) ?_
  refine wp_skip ?_
  refine thenN ?_
  refine wp_stmt_seq [.val (SF [(FL (loP (some (mnP (q2 p0 p1) 1)))), (FL (hiP (some (mxP (q2 p0 p1) 1))))]), .put (.inl 2) (.box 38 (SF [(FL (loP (some (mnP (q2 p0 p1) 1)))), (FL (hiP (some (mxP (q2 p0 p1) 1))))])), .val (iV 0)] [.inr 0, .inr 1, .inr 2] [.inl 2] follows S6 rfl (by kernel_rfl) ?_ ?_
  · refine ⟨⟨⟨trivial, ?_⟩, ?_⟩, ?_⟩
    · exact lod 2 wA (loads_of strct_ival shp_iv)
    · exact owe_set rfl wA rfl (k := 1) rfl (by kernel_rfl) (oO 0 45) (stores_of strct_ival shp_i0 shp_iv) rfl
    · exact mC
  intro B7 a7 W7 (S7 : Sta w 46 [(1, (.box 38 (SF [(Is (.float .f64 x)), (Is (.float .f64 y))]))), (2, (.box 38 (SF [(FL (loP (some (mnP (q2 p0 p1) 1)))), (FL (hiP (some (mxP (q2 p0 p1) 1))))]))), (7, (.box 38 (SF [(FL (loP (some (mnP (q2 p0 p1) 1)))), (FL (hiP (some (mxP (q2 p0 p1) 1))))])))] [(3, iV 0)] _ _ _)
  refine wp_ret ?_
  exact end_two S7 rfl (res_cell S7 1 2 rfl strct_ival shp_iv) (res_tmp S7 0 3 rfl)
set_option maxHeartbeats 1000000 in
theorem rsqr_A0 (w : World) (x y : Nat) (hx : x < 18446744073709551616) (hy : y < 18446744073709551616) (px py p0 p1 : Int) (hpx : plc x = some px) (hpy : plc y = some py) (h0 : arP .mul x x = some p0) (h1 : arP .mul y y = some p1) (hs : ¬ p1 < p0) (ha : px ≤ 0) (hb : 0 ≤ py) :
    Calls Tryz.prog 25 #[(.agg #[.float .f64 x, .float .f64 y])] w (Gives (IVN (plc 0) (upP (some p1))) w) := by
  refine calls_sta (sl := [(0, (SF [(Is (.float .f64 x)), (Is (.float .f64 y))]))]) Tryz.func25 rfl Tryz.ntmps25 (by simp) (args_cons rfl (ix_has) args_nil) ?_
  intro a0 S0
  refine wp_stmt_seq [.new (.box 38 (SF [(Is (.float .f64 x)), (Is (.float .f64 y))])), .new (.box 38 (Is (.agg #[.float .f64 0, .float .f64 0])))] [.inl 0, .inl 1] [] follows S0 rfl (by kernel_rfl) ?_ ?_
  · refine ⟨⟨trivial, ?_⟩, ?_⟩
    · exact owe_box rfl wA rfl (oS 0 0) rfl (fun ρ w h => box_ival shp_iv ρ _ _ w h)
    · exact owe_new rfl wA rfl rfl (fun ρ w => alloc_ival ρ _ w)
  intro B1 a1 W1 (S1 : Sta w 43 [(1, (.box 38 (SF [(Is (.float .f64 x)), (Is (.float .f64 y))]))), (2, (.box 38 (Is (.agg #[.float .f64 0, .float .f64 0]))))] [] _ _ _)
  refine wp_stmt_seq [.val (Part a1 1 0), .val (Is (.float .f64 x)), .val (Part a1 1 0), .val (Is (.float .f64 x)), .val (FL (some p0)), .val (FL (some p0))] [.inr 0, .inr 1] [.inl 5] follows S1 rfl (by kernel_rfl) ?_ ?_
  · refine ⟨⟨⟨⟨⟨⟨trivial, ?_⟩, ?_⟩, ?_⟩, ?_⟩, ?_⟩, ?_⟩
    · exact owe_part rfl wA rfl (k := 0) rfl (by kernel_rfl) rfl (fun ρ w b h => part_ival0 ρ _ _ w b 0 h)
    · exact owe_pload rfl wA rfl (oO 0 7) (k := 0) rfl (by kernel_rfl) rfl (fun ρ w b u h1 h2 h3 => ploadI rfl load1_f64 ρ _ _ w b u h1 h2 h3)
    · exact owe_part rfl wA rfl (k := 0) rfl (by kernel_rfl) rfl (fun ρ w b h => part_ival0 ρ _ _ w b 0 h)
    · exact owe_pload rfl wA rfl (oO 2 9) (k := 0) rfl (by kernel_rfl) rfl (fun ρ w b u h1 h2 h3 => ploadI rfl load1_f64 ρ _ _ w b u h1 h2 h3)
    · exact owe_farithS (by simp) rfl wA rfl (oO 1 8) (oO 3 10) h0 rfl
    · exact mO 4 11
  intro B2 a2 W2 (S2 : Sta w 43 [(1, (.box 38 (SF [(Is (.float .f64 x)), (Is (.float .f64 y))]))), (2, (.box 38 (Is (.agg #[.float .f64 0, .float .f64 0]))))] [(3, (FL (some p0)))] _ _ _)
  refine wp_stmt_seq [.val (Part a2 1 1), .val (Is (.float .f64 y)), .val (Part a2 1 1), .val (Is (.float .f64 y)), .val (FL (some p1)), .val (FL (some p1))] [.inr 0, .inr 1] [.inl 5, .inr 0] follows S2 rfl (by kernel_rfl) ?_ ?_
  · refine ⟨⟨⟨⟨⟨⟨trivial, ?_⟩, ?_⟩, ?_⟩, ?_⟩, ?_⟩, ?_⟩
    · exact owe_part rfl wA rfl (k := 0) rfl (by kernel_rfl) rfl (fun ρ w b h => part_ival1 ρ _ _ w b 0 h)
    · exact owe_pload rfl wA rfl (oO 0 12) (k := 0) rfl (by kernel_rfl) rfl (fun ρ w b u h1 h2 h3 => ploadI rfl load1_f64 ρ _ _ w b u h1 h2 h3)
    · exact owe_part rfl wA rfl (k := 0) rfl (by kernel_rfl) rfl (fun ρ w b h => part_ival1 ρ _ _ w b 0 h)
    · exact owe_pload rfl wA rfl (oO 2 14) (k := 0) rfl (by kernel_rfl) rfl (fun ρ w b u h1 h2 h3 => ploadI rfl load1_f64 ρ _ _ w b u h1 h2 h3)
    · exact owe_farithS (by simp) rfl wA rfl (oO 1 13) (oO 3 15) h1 rfl
    · exact mO 4 16
  intro B3 a3 W3 (S3 : Sta w 43 [(1, (.box 38 (SF [(Is (.float .f64 x)), (Is (.float .f64 y))]))), (2, (.box 38 (Is (.agg #[.float .f64 0, .float .f64 0]))))] [(4, (FL (some p1))), (3, (FL (some p0)))] _ _ _)
  refine wp_seq ?_
  refine wp_stmt_seq [.val (FL (some p0)), .val (FL (some p1)), kF] [.inr 0, .inr 1] [.inl 2, .inr 0, .inr 1] follows S3 rfl (by kernel_rfl) ?_ ?_
  · refine ⟨⟨⟨trivial, ?_⟩, ?_⟩, ?_⟩
    · exact mS 1 3
    · exact mS 0 4
    · exact owe_fcmp rfl wA rfl (oO 0 17) (oO 1 18) (gt_f hs) rfl
  intro B4 a4 W4 (S4 : Sta w 43 [(1, (.box 38 (SF [(Is (.float .f64 x)), (Is (.float .f64 y))]))), (2, (.box 38 (Is (.agg #[.float .f64 0, .float .f64 0]))))] [(19, bF), (4, (FL (some p1))), (3, (FL (some p0)))] _ _ _)
  refine wp_cond_false (S4.bool 0 19 rfl) ?_
  refine wp_skip ?_
  refine thenN ?_
  refine wp_stmt_seq [.val (FL (some p0)), .val (FL (dnP (some p0))), .val (FL (some p1)), .val (FL (upP (some p1))), .val (SF [(FL (dnP (some p0))), (FL (upP (some p1)))]), .new (.box 38 (Is (.agg #[.float .f64 0, .float .f64 0]))), .put (.inr 5) (.box 38 (SF [(FL (dnP (some p0))), (FL (upP (some p1)))]))] [.inr 0, .inr 1, .inl 5] [] follows S4 rfl (by kernel_rfl) ?_ ?_
  · repeat' refine And.intro ?_ ?_
    · trivial
    · exact mS 2 3
    · exact cc1 wA (qO 0 23 rfl) (fresh_fl _) h_rdown
    · exact mS 1 4
    · exact cc1 wA (qO 2 25 rfl) (fresh_fl _) h_rup
    · exact owe_build_iv rfl wA rfl (oO 1 24) (oO 3 26) flt_fl flt_fl rfl
    · exact owe_new rfl wA rfl rfl (fun ρ w => alloc_ival ρ _ w)
    · exact owe_put 5 rfl wA rfl (by kernel_rfl) rfl (oO 4 27) (stores_of strct_ival shp_i0 shp_iv) rfl
  intro B5 a5 W5 (S5 : Sta w 43 [(1, (.box 38 (SF [(Is (.float .f64 x)), (Is (.float .f64 y))]))), (2, (.box 38 (Is (.agg #[.float .f64 0, .float .f64 0])))), (6, (.box 38 (SF [(FL (dnP (some p0))), (FL (upP (some p1)))])))] [] _ _ _)
  refine wp_seq ?_
  refine wp_stmt_seq [.val (Part a5 1 0), .val (Is (.float .f64 x)), kT, kT, .val (Part a5 1 1), .val (Is (.float .f64 y)), kT, kT, kT, .off, .off, .off, kT] [.inr 0, .inr 1, .inr 2] [.inl 12] follows S5 rfl (by kernel_rfl) ?_ ?_
  · repeat' refine And.intro ?_ ?_
    · trivial
    · exact owe_part rfl wA rfl (k := 0) rfl (by kernel_rfl) rfl (fun ρ w b h => part_ival0 ρ _ _ w b 0 h)
    · exact owe_pload rfl wA rfl (oO 0 28) (k := 0) rfl (by kernel_rfl) rfl (fun ρ w b u h1 h2 h3 => ploadI rfl load1_f64 ρ _ _ w b u h1 h2 h3)
    · exact owe_fcmp rfl wA rfl ((oO 1 29).imp (fl_is hx)) ((opnd_const _).imp (fl_is (by decide))) (le0_t hpx ha) rfl
    · exact mO 2 30
    · exact owe_part rfl (wI 3 31) rfl (k := 0) rfl (by kernel_rfl) rfl (fun ρ w b h => part_ival1 ρ _ _ w b 0 h)
    · exact owe_pload rfl (wI 3 31) rfl (oO 4 32) (k := 0) rfl (by kernel_rfl) rfl (fun ρ w b u h1 h2 h3 => ploadI rfl load1_f64 ρ _ _ w b u h1 h2 h3)
    · exact owe_fcmp rfl (wI 3 31) rfl ((oO 5 33).imp (fl_is hy)) ((opnd_const _).imp (fl_is (by decide))) (ge0_t hpy hb) rfl
    · exact pT wA (oO 3 31) (oO 6 34)
    · exact mO 7 35
    · exact oF 8 36
    · exact oF 8 36
    · exact oF 8 36
    · exact pT wA (oO 8 36) (opnd_const _)
  intro B6 a6 W6 (S6 : Sta w 43 [(1, (.box 38 (SF [(Is (.float .f64 x)), (Is (.float .f64 y))]))), (2, (.box 38 (Is (.agg #[.float .f64 0, .float .f64 0])))), (6, (.box 38 (SF [(FL (dnP (some p0))), (FL (upP (some p1)))])))] [(40, bT)] _ _ _)
  refine wp_cond_true (S6.bool 0 40 rfl) ?_
  refine wp_stmt [.val (Part a6 6 0), .put (.inl 6) (.box 38 (SF [(FL (plc 0)), (FL (upP (some p1)))]))] [.inr 0, .inr 1, .inr 2] [] follows S6 rfl (by kernel_rfl) ?_ ?_
  · refine ⟨⟨trivial, ?_⟩, ?_⟩
    · exact owe_part rfl wA rfl (k := 2) rfl (by kernel_rfl) rfl (fun ρ w b h => part_ival0 ρ _ _ w b 0 h)
    · exact owe_pput (f := 0) rfl wA rfl (oO 0 41) (k := 2) rfl (by kernel_rfl) ((opnd_const _).imp (fl_is (by decide))) flt_fl (Nat.le_of_ble_eq_true rfl) rfl
  intro B7 a7 W7 (S7 : Sta w 43 [(1, (.box 38 (SF [(Is (.float .f64 x)), (Is (.float .f64 y))]))), (2, (.box 38 (Is (.agg #[.float .f64 0, .float .f64 0])))), (6, (.box 38 (SF [(FL (plc 0)), (FL (upP (some p1)))])))] [] _ _ _)
  refine thenN ?_
  refine wp_stmt_seq [.val (SF [(FL (plc 0)), (FL (upP (some p1)))]), .put (.inl 2) (.box 38 (SF [(FL (plc 0)), (FL (upP (some p1)))]))] [.inr 0, .inr 1, .inr 2] [] follows S7 rfl (by kernel_rfl) ?_ ?_
  · refine ⟨⟨trivial, ?_⟩, ?_⟩
    · exact lod 2 wA (loads_of strct_ival shp_iv)
    · exact owe_set rfl wA rfl (k := 1) rfl (by kernel_rfl) (oO 0 42) (stores_of strct_ival shp_i0 shp_iv) rfl
  intro B8 a8 W8 (S8 : Sta w 43 [(1, (.box 38 (SF [(Is (.float .f64 x)), (Is (.float .f64 y))]))), (2, (.box 38 (SF [(FL (plc 0)), (FL (upP (some p1)))]))), (6, (.box 38 (SF [(FL (plc 0)), (FL (upP (some p1)))])))] [] _ _ _)
  refine wp_ret ?_
  exact end_one S8 rfl (res_cell S8 1 2 rfl strct_ival shp_iv)
set_option maxHeartbeats 1000000 in
theorem rsqr_B0 (w : World) (x y : Nat) (hx : x < 18446744073709551616) (hy : y < 18446744073709551616) (px py p0 p1 : Int) (hpx : plc x = some px) (hpy : plc y = some py) (h0 : arP .mul x x = some p0) (h1 : arP .mul y y = some p1) (hs : ¬ p1 < p0) (ha : px ≤ 0) (hb : py < 0) (hd : dnI p0 < 0) :
    Calls Tryz.prog 25 #[(.agg #[.float .f64 x, .float .f64 y])] w (Gives (IVN (plc 0) (upP (some p1))) w) := by
  refine calls_sta (sl := [(0, (SF [(Is (.float .f64 x)), (Is (.float .f64 y))]))]) Tryz.func25 rfl Tryz.ntmps25 (by simp) (args_cons rfl (ix_has) args_nil) ?_
  intro a0 S0
  refine wp_stmt_seq [.new (.box 38 (SF [(Is (.float .f64 x)), (Is (.float .f64 y))])), .new (.box 38 (Is (.agg #[.float .f64 0, .float .f64 0])))] [.inl 0, .inl 1] [] follows S0 rfl (by kernel_rfl) ?_ ?_
  · refine ⟨⟨trivial, ?_⟩, ?_⟩
    · exact owe_box rfl wA rfl (oS 0 0) rfl (fun ρ w h => box_ival shp_iv ρ _ _ w h)
    · exact owe_new rfl wA rfl rfl (fun ρ w => alloc_ival ρ _ w)
  intro B1 a1 W1 (S1 : Sta w 43 [(1, (.box 38 (SF [(Is (.float .f64 x)), (Is (.float .f64 y))]))), (2, (.box 38 (Is (.agg #[.float .f64 0, .float .f64 0]))))] [] _ _ _)
  refine wp_stmt_seq [.val (Part a1 1 0), .val (Is (.float .f64 x)), .val (Part a1 1 0), .val (Is (.float .f64 x)), .val (FL (some p0)), .val (FL (some p0))] [.inr 0, .inr 1] [.inl 5] follows S1 rfl (by kernel_rfl) ?_ ?_
  · refine ⟨⟨⟨⟨⟨⟨trivial, ?_⟩, ?_⟩, ?_⟩, ?_⟩, ?_⟩, ?_⟩
    · exact owe_part rfl wA rfl (k := 0) rfl (by kernel_rfl) rfl (fun ρ w b h => part_ival0 ρ _ _ w b 0 h)
    · exact owe_pload rfl wA rfl (oO 0 7) (k := 0) rfl (by kernel_rfl) rfl (fun ρ w b u h1 h2 h3 => ploadI rfl load1_f64 ρ _ _ w b u h1 h2 h3)
    · exact owe_part rfl wA rfl (k := 0) rfl (by kernel_rfl) rfl (fun ρ w b h => part_ival0 ρ _ _ w b 0 h)
    · exact owe_pload rfl wA rfl (oO 2 9) (k := 0) rfl (by kernel_rfl) rfl (fun ρ w b u h1 h2 h3 => ploadI rfl load1_f64 ρ _ _ w b u h1 h2 h3)
    · exact owe_farithS (by simp) rfl wA rfl (oO 1 8) (oO 3 10) h0 rfl
    · exact mO 4 11
  intro B2 a2 W2 (S2 : Sta w 43 [(1, (.box 38 (SF [(Is (.float .f64 x)), (Is (.float .f64 y))]))), (2, (.box 38 (Is (.agg #[.float .f64 0, .float .f64 0]))))] [(3, (FL (some p0)))] _ _ _)
  refine wp_stmt_seq [.val (Part a2 1 1), .val (Is (.float .f64 y)), .val (Part a2 1 1), .val (Is (.float .f64 y)), .val (FL (some p1)), .val (FL (some p1))] [.inr 0, .inr 1] [.inl 5, .inr 0] follows S2 rfl (by kernel_rfl) ?_ ?_
  · refine ⟨⟨⟨⟨⟨⟨trivial, ?_⟩, ?_⟩, ?_⟩, ?_⟩, ?_⟩, ?_⟩
    · exact owe_part rfl wA rfl (k := 0) rfl (by kernel_rfl) rfl (fun ρ w b h => part_ival1 ρ _ _ w b 0 h)
    · exact owe_pload rfl wA rfl (oO 0 12) (k := 0) rfl (by kernel_rfl) rfl (fun ρ w b u h1 h2 h3 => ploadI rfl load1_f64 ρ _ _ w b u h1 h2 h3)
    · exact owe_part rfl wA rfl (k := 0) rfl (by kernel_rfl) rfl (fun ρ w b h => part_ival1 ρ _ _ w b 0 h)
    · exact owe_pload rfl wA rfl (oO 2 14) (k := 0) rfl (by kernel_rfl) rfl (fun ρ w b u h1 h2 h3 => ploadI rfl load1_f64 ρ _ _ w b u h1 h2 h3)
    · exact owe_farithS (by simp) rfl wA rfl (oO 1 13) (oO 3 15) h1 rfl
    · exact mO 4 16
  intro B3 a3 W3 (S3 : Sta w 43 [(1, (.box 38 (SF [(Is (.float .f64 x)), (Is (.float .f64 y))]))), (2, (.box 38 (Is (.agg #[.float .f64 0, .float .f64 0]))))] [(4, (FL (some p1))), (3, (FL (some p0)))] _ _ _)
  refine wp_seq ?_
  refine wp_stmt_seq [.val (FL (some p0)), .val (FL (some p1)), kF] [.inr 0, .inr 1] [.inl 2, .inr 0, .inr 1] follows S3 rfl (by kernel_rfl) ?_ ?_
  · refine ⟨⟨⟨trivial, ?_⟩, ?_⟩, ?_⟩
    · exact mS 1 3
    · exact mS 0 4
    · exact owe_fcmp rfl wA rfl (oO 0 17) (oO 1 18) (gt_f hs) rfl
  intro B4 a4 W4 (S4 : Sta w 43 [(1, (.box 38 (SF [(Is (.float .f64 x)), (Is (.float .f64 y))]))), (2, (.box 38 (Is (.agg #[.float .f64 0, .float .f64 0]))))] [(19, bF), (4, (FL (some p1))), (3, (FL (some p0)))] _ _ _)
  refine wp_cond_false (S4.bool 0 19 rfl) ?_
  refine wp_skip ?_
  refine thenN ?_
  refine wp_stmt_seq [.val (FL (some p0)), .val (FL (dnP (some p0))), .val (FL (some p1)), .val (FL (upP (some p1))), .val (SF [(FL (dnP (some p0))), (FL (upP (some p1)))]), .new (.box 38 (Is (.agg #[.float .f64 0, .float .f64 0]))), .put (.inr 5) (.box 38 (SF [(FL (dnP (some p0))), (FL (upP (some p1)))]))] [.inr 0, .inr 1, .inl 5] [] follows S4 rfl (by kernel_rfl) ?_ ?_
  · repeat' refine And.intro ?_ ?_
    · trivial
    · exact mS 2 3
    · exact cc1 wA (qO 0 23 rfl) (fresh_fl _) h_rdown
    · exact mS 1 4
    · exact cc1 wA (qO 2 25 rfl) (fresh_fl _) h_rup
    · exact owe_build_iv rfl wA rfl (oO 1 24) (oO 3 26) flt_fl flt_fl rfl
    · exact owe_new rfl wA rfl rfl (fun ρ w => alloc_ival ρ _ w)
    · exact owe_put 5 rfl wA rfl (by kernel_rfl) rfl (oO 4 27) (stores_of strct_ival shp_i0 shp_iv) rfl
  intro B5 a5 W5 (S5 : Sta w 43 [(1, (.box 38 (SF [(Is (.float .f64 x)), (Is (.float .f64 y))]))), (2, (.box 38 (Is (.agg #[.float .f64 0, .float .f64 0])))), (6, (.box 38 (SF [(FL (dnP (some p0))), (FL (upP (some p1)))])))] [] _ _ _)
  refine wp_seq ?_
  refine wp_stmt_seq [.val (Part a5 1 0), .val (Is (.float .f64 x)), kT, kT, .val (Part a5 1 1), .val (Is (.float .f64 y)), kF, kF, kF, .val (Part a5 6 0), .val (FL (dnP (some p0))), kT, kT] [.inr 0, .inr 1, .inr 2] [.inl 12] follows S5 rfl (by kernel_rfl) ?_ ?_
  · repeat' refine And.intro ?_ ?_
    · trivial
    · exact owe_part rfl wA rfl (k := 0) rfl (by kernel_rfl) rfl (fun ρ w b h => part_ival0 ρ _ _ w b 0 h)
    · exact owe_pload rfl wA rfl (oO 0 28) (k := 0) rfl (by kernel_rfl) rfl (fun ρ w b u h1 h2 h3 => ploadI rfl load1_f64 ρ _ _ w b u h1 h2 h3)
    · exact owe_fcmp rfl wA rfl ((oO 1 29).imp (fl_is hx)) ((opnd_const _).imp (fl_is (by decide))) (le0_t hpx ha) rfl
    · exact mO 2 30
    · exact owe_part rfl (wI 3 31) rfl (k := 0) rfl (by kernel_rfl) rfl (fun ρ w b h => part_ival1 ρ _ _ w b 0 h)
    · exact owe_pload rfl (wI 3 31) rfl (oO 4 32) (k := 0) rfl (by kernel_rfl) rfl (fun ρ w b u h1 h2 h3 => ploadI rfl load1_f64 ρ _ _ w b u h1 h2 h3)
    · exact owe_fcmp rfl (wI 3 31) rfl ((oO 5 33).imp (fl_is hy)) ((opnd_const _).imp (fl_is (by decide))) (ge0_f hpy hb) rfl
    · exact pT wA (oO 3 31) (oO 6 34)
    · exact mO 7 35
    · exact owe_part rfl (wI 8 36) rfl (k := 2) rfl (by kernel_rfl) rfl (fun ρ w b h => part_ival0 ρ _ _ w b 0 h)
    · exact owe_pload rfl (wI 8 36) rfl (oO 9 37) (k := 2) rfl (by kernel_rfl) rfl (fun ρ w b u h1 h2 h3 => ploadI rfl load1_f64 ρ _ _ w b u h1 h2 h3)
    · exact owe_fcmp rfl (wI 8 36) rfl (oO 10 38) ((opnd_const _).imp (fl_is (by decide))) (lt_t (p := dnI p0) hd) rfl
    · exact pF wA (oO 8 36) (oO 11 39)
  intro B6 a6 W6 (S6 : Sta w 43 [(1, (.box 38 (SF [(Is (.float .f64 x)), (Is (.float .f64 y))]))), (2, (.box 38 (Is (.agg #[.float .f64 0, .float .f64 0])))), (6, (.box 38 (SF [(FL (dnP (some p0))), (FL (upP (some p1)))])))] [(40, bT)] _ _ _)
  refine wp_cond_true (S6.bool 0 40 rfl) ?_
  refine wp_stmt [.val (Part a6 6 0), .put (.inl 6) (.box 38 (SF [(FL (plc 0)), (FL (upP (some p1)))]))] [.inr 0, .inr 1, .inr 2] [] follows S6 rfl (by kernel_rfl) ?_ ?_
  · refine ⟨⟨trivial, ?_⟩, ?_⟩
    · exact owe_part rfl wA rfl (k := 2) rfl (by kernel_rfl) rfl (fun ρ w b h => part_ival0 ρ _ _ w b 0 h)
    · exact owe_pput (f := 0) rfl wA rfl (oO 0 41) (k := 2) rfl (by kernel_rfl) ((opnd_const _).imp (fl_is (by decide))) flt_fl (Nat.le_of_ble_eq_true rfl) rfl
  intro B7 a7 W7 (S7 : Sta w 43 [(1, (.box 38 (SF [(Is (.float .f64 x)), (Is (.float .f64 y))]))), (2, (.box 38 (Is (.agg #[.float .f64 0, .float .f64 0])))), (6, (.box 38 (SF [(FL (plc 0)), (FL (upP (some p1)))])))] [] _ _ _)
  refine thenN ?_
  refine wp_stmt_seq [.val (SF [(FL (plc 0)), (FL (upP (some p1)))]), .put (.inl 2) (.box 38 (SF [(FL (plc 0)), (FL (upP (some p1)))]))] [.inr 0, .inr 1, .inr 2] [] follows S7 rfl (by kernel_rfl) ?_ ?_
  · refine ⟨⟨trivial, ?_⟩, ?_⟩
    · exact lod 2 wA (loads_of strct_ival shp_iv)
    · exact owe_set rfl wA rfl (k := 1) rfl (by kernel_rfl) (oO 0 42) (stores_of strct_ival shp_i0 shp_iv) rfl
  intro B8 a8 W8 (S8 : Sta w 43 [(1, (.box 38 (SF [(Is (.float .f64 x)), (Is (.float .f64 y))]))), (2, (.box 38 (SF [(FL (plc 0)), (FL (upP (some p1)))]))), (6, (.box 38 (SF [(FL (plc 0)), (FL (upP (some p1)))])))] [] _ _ _)
  refine wp_ret ?_
  exact end_one S8 rfl (res_cell S8 1 2 rfl strct_ival shp_iv)
set_option maxHeartbeats 1000000 in
theorem rsqr_C0 (w : World) (x y : Nat) (hx : x < 18446744073709551616) (hy : y < 18446744073709551616) (px py p0 p1 : Int) (hpx : plc x = some px) (hpy : plc y = some py) (h0 : arP .mul x x = some p0) (h1 : arP .mul y y = some p1) (hs : ¬ p1 < p0) (ha : px ≤ 0) (hb : py < 0) (hd : ¬ dnI p0 < 0) :
    Calls Tryz.prog 25 #[(.agg #[.float .f64 x, .float .f64 y])] w (Gives (IVN (dnP (some p0)) (upP (some p1))) w) := by
  refine calls_sta (sl := [(0, (SF [(Is (.float .f64 x)), (Is (.float .f64 y))]))]) Tryz.func25 rfl Tryz.ntmps25 (by simp) (args_cons rfl (ix_has) args_nil) ?_
  intro a0 S0
  refine wp_stmt_seq [.new (.box 38 (SF [(Is (.float .f64 x)), (Is (.float .f64 y))])), .new (.box 38 (Is (.agg #[.float .f64 0, .float .f64 0])))] [.inl 0, .inl 1] [] follows S0 rfl (by kernel_rfl) ?_ ?_
  · refine ⟨⟨trivial, ?_⟩, ?_⟩
    · exact owe_box rfl wA rfl (oS 0 0) rfl (fun ρ w h => box_ival shp_iv ρ _ _ w h)
    · exact owe_new rfl wA rfl rfl (fun ρ w => alloc_ival ρ _ w)
  intro B1 a1 W1 (S1 : Sta w 43 [(1, (.box 38 (SF [(Is (.float .f64 x)), (Is (.float .f64 y))]))), (2, (.box 38 (Is (.agg #[.float .f64 0, .float .f64 0]))))] [] _ _ _)
  refine wp_stmt_seq [.val (Part a1 1 0), .val (Is (.float .f64 x)), .val (Part a1 1 0), .val (Is (.float .f64 x)), .val (FL (some p0)), .val (FL (some p0))] [.inr 0, .inr 1] [.inl 5] follows S1 rfl (by kernel_rfl) ?_ ?_
  · refine ⟨⟨⟨⟨⟨⟨trivial, ?_⟩, ?_⟩, ?_⟩, ?_⟩, ?_⟩, ?_⟩
    · exact owe_part rfl wA rfl (k := 0) rfl (by kernel_rfl) rfl (fun ρ w b h => part_ival0 ρ _ _ w b 0 h)
    · exact owe_pload rfl wA rfl (oO 0 7) (k := 0) rfl (by kernel_rfl) rfl (fun ρ w b u h1 h2 h3 => ploadI rfl load1_f64 ρ _ _ w b u h1 h2 h3)
    · exact owe_part rfl wA rfl (k := 0) rfl (by kernel_rfl) rfl (fun ρ w b h => part_ival0 ρ _ _ w b 0 h)
    · exact owe_pload rfl wA rfl (oO 2 9) (k := 0) rfl (by kernel_rfl) rfl (fun ρ w b u h1 h2 h3 => ploadI rfl load1_f64 ρ _ _ w b u h1 h2 h3)
    · exact owe_farithS (by simp) rfl wA rfl (oO 1 8) (oO 3 10) h0 rfl
    · exact mO 4 11
  intro B2 a2 W2 (S2 : Sta w 43 [(1, (.box 38 (SF [(Is (.float .f64 x)), (Is (.float .f64 y))]))), (2, (.box 38 (Is (.agg #[.float .f64 0, .float .f64 0]))))] [(3, (FL (some p0)))] _ _ _)
  refine wp_stmt_seq [.val (Part a2 1 1), .val (Is (.float .f64 y)), .val (Part a2 1 1), .val (Is (.float .f64 y)), .val (FL (some p1)), .val (FL (some p1))] [.inr 0, .inr 1] [.inl 5, .inr 0] follows S2 rfl (by kernel_rfl) ?_ ?_
  · refine ⟨⟨⟨⟨⟨⟨trivial, ?_⟩, ?_⟩, ?_⟩, ?_⟩, ?_⟩, ?_⟩
    · exact owe_part rfl wA rfl (k := 0) rfl (by kernel_rfl) rfl (fun ρ w b h => part_ival1 ρ _ _ w b 0 h)
    · exact owe_pload rfl wA rfl (oO 0 12) (k := 0) rfl (by kernel_rfl) rfl (fun ρ w b u h1 h2 h3 => ploadI rfl load1_f64 ρ _ _ w b u h1 h2 h3)
    · exact owe_part rfl wA rfl (k := 0) rfl (by kernel_rfl) rfl (fun ρ w b h => part_ival1 ρ _ _ w b 0 h)
    · exact owe_pload rfl wA rfl (oO 2 14) (k := 0) rfl (by kernel_rfl) rfl (fun ρ w b u h1 h2 h3 => ploadI rfl load1_f64 ρ _ _ w b u h1 h2 h3)
    · exact owe_farithS (by simp) rfl wA rfl (oO 1 13) (oO 3 15) h1 rfl
    · exact mO 4 16
  intro B3 a3 W3 (S3 : Sta w 43 [(1, (.box 38 (SF [(Is (.float .f64 x)), (Is (.float .f64 y))]))), (2, (.box 38 (Is (.agg #[.float .f64 0, .float .f64 0]))))] [(4, (FL (some p1))), (3, (FL (some p0)))] _ _ _)
  refine wp_seq ?_
  refine wp_stmt_seq [.val (FL (some p0)), .val (FL (some p1)), kF] [.inr 0, .inr 1] [.inl 2, .inr 0, .inr 1] follows S3 rfl (by kernel_rfl) ?_ ?_
  · refine ⟨⟨⟨trivial, ?_⟩, ?_⟩, ?_⟩
    · exact mS 1 3
    · exact mS 0 4
    · exact owe_fcmp rfl wA rfl (oO 0 17) (oO 1 18) (gt_f hs) rfl
  intro B4 a4 W4 (S4 : Sta w 43 [(1, (.box 38 (SF [(Is (.float .f64 x)), (Is (.float .f64 y))]))), (2, (.box 38 (Is (.agg #[.float .f64 0, .float .f64 0]))))] [(19, bF), (4, (FL (some p1))), (3, (FL (some p0)))] _ _ _)
  refine wp_cond_false (S4.bool 0 19 rfl) ?_
  refine wp_skip ?_
  refine thenN ?_
  refine wp_stmt_seq [.val (FL (some p0)), .val (FL (dnP (some p0))), .val (FL (some p1)), .val (FL (upP (some p1))), .val (SF [(FL (dnP (some p0))), (FL (upP (some p1)))]), .new (.box 38 (Is (.agg #[.float .f64 0, .float .f64 0]))), .put (.inr 5) (.box 38 (SF [(FL (dnP (some p0))), (FL (upP (some p1)))]))] [.inr 0, .inr 1, .inl 5] [] follows S4 rfl (by kernel_rfl) ?_ ?_
  · repeat' refine And.intro ?_ ?_
    · trivial
    · exact mS 2 3
    · exact cc1 wA (qO 0 23 rfl) (fresh_fl _) h_rdown
    · exact mS 1 4
    · exact cc1 wA (qO 2 25 rfl) (fresh_fl _) h_rup
    · exact owe_build_iv rfl wA rfl (oO 1 24) (oO 3 26) flt_fl flt_fl rfl
    · exact owe_new rfl wA rfl rfl (fun ρ w => alloc_ival ρ _ w)
    · exact owe_put 5 rfl wA rfl (by kernel_rfl) rfl (oO 4 27) (stores_of strct_ival shp_i0 shp_iv) rfl
  intro B5 a5 W5 (S5 : Sta w 43 [(1, (.box 38 (SF [(Is (.float .f64 x)), (Is (.float .f64 y))]))), (2, (.box 38 (Is (.agg #[.float .f64 0, .float .f64 0])))), (6, (.box 38 (SF [(FL (dnP (some p0))), (FL (upP (some p1)))])))] [] _ _ _)
  refine wp_seq ?_
  refine wp_stmt_seq [.val (Part a5 1 0), .val (Is (.float .f64 x)), kT, kT, .val (Part a5 1 1), .val (Is (.float .f64 y)), kF, kF, kF, .val (Part a5 6 0), .val (FL (dnP (some p0))), kF, kF] [.inr 0, .inr 1, .inr 2] [.inl 12] follows S5 rfl (by kernel_rfl) ?_ ?_
  · repeat' refine And.intro ?_ ?_
    · trivial
    · exact owe_part rfl wA rfl (k := 0) rfl (by kernel_rfl) rfl (fun ρ w b h => part_ival0 ρ _ _ w b 0 h)
    · exact owe_pload rfl wA rfl (oO 0 28) (k := 0) rfl (by kernel_rfl) rfl (fun ρ w b u h1 h2 h3 => ploadI rfl load1_f64 ρ _ _ w b u h1 h2 h3)
    · exact owe_fcmp rfl wA rfl ((oO 1 29).imp (fl_is hx)) ((opnd_const _).imp (fl_is (by decide))) (le0_t hpx ha) rfl
    · exact mO 2 30
    · exact owe_part rfl (wI 3 31) rfl (k := 0) rfl (by kernel_rfl) rfl (fun ρ w b h => part_ival1 ρ _ _ w b 0 h)
    · exact owe_pload rfl (wI 3 31) rfl (oO 4 32) (k := 0) rfl (by kernel_rfl) rfl (fun ρ w b u h1 h2 h3 => ploadI rfl load1_f64 ρ _ _ w b u h1 h2 h3)
    · exact owe_fcmp rfl (wI 3 31) rfl ((oO 5 33).imp (fl_is hy)) ((opnd_const _).imp (fl_is (by decide))) (ge0_f hpy hb) rfl
    · exact pT wA (oO 3 31) (oO 6 34)
    · exact mO 7 35
    · exact owe_part rfl (wI 8 36) rfl (k := 2) rfl (by kernel_rfl) rfl (fun ρ w b h => part_ival0 ρ _ _ w b 0 h)
    · exact owe_pload rfl (wI 8 36) rfl (oO 9 37) (k := 2) rfl (by kernel_rfl) rfl (fun ρ w b u h1 h2 h3 => ploadI rfl load1_f64 ρ _ _ w b u h1 h2 h3)
    · exact owe_fcmp rfl (wI 8 36) rfl (oO 10 38) ((opnd_const _).imp (fl_is (by decide))) (lt_f (p := dnI p0) hd) rfl
    · exact pF wA (oO 8 36) (oO 11 39)
  intro B6 a6 W6 (S6 : Sta w 43 [(1, (.box 38 (SF [(Is (.float .f64 x)), (Is (.float .f64 y))]))), (2, (.box 38 (Is (.agg #[.float .f64 0, .float .f64 0])))), (6, (.box 38 (SF [(FL (dnP (some p0))), (FL (upP (some p1)))])))] [(40, bF)] _ _ _)
  refine wp_cond_false (S6.bool 0 40 rfl) ?_
  refine wp_skip ?_
  refine thenN ?_
  refine wp_stmt_seq [.val (SF [(FL (dnP (some p0))), (FL (upP (some p1)))]), .put (.inl 2) (.box 38 (SF [(FL (dnP (some p0))), (FL (upP (some p1)))]))] [.inr 0, .inr 1, .inr 2] [] follows S6 rfl (by kernel_rfl) ?_ ?_
  · refine ⟨⟨trivial, ?_⟩, ?_⟩
    · exact lod 2 wA (loads_of strct_ival shp_iv)
    · exact owe_set rfl wA rfl (k := 1) rfl (by kernel_rfl) (oO 0 42) (stores_of strct_ival shp_i0 shp_iv) rfl
  intro B7 a7 W7 (S7 : Sta w 43 [(1, (.box 38 (SF [(Is (.float .f64 x)), (Is (.float .f64 y))]))), (2, (.box 38 (SF [(FL (dnP (some p0))), (FL (upP (some p1)))]))), (6, (.box 38 (SF [(FL (dnP (some p0))), (FL (upP (some p1)))])))] [] _ _ _)
  refine wp_ret ?_
  exact end_one S7 rfl (res_cell S7 1 2 rfl strct_ival shp_iv)
set_option maxHeartbeats 1000000 in
theorem rsqr_D0 (w : World) (x y : Nat) (hx : x < 18446744073709551616) (hy : y < 18446744073709551616) (px py p0 p1 : Int) (hpx : plc x = some px) (hpy : plc y = some py) (h0 : arP .mul x x = some p0) (h1 : arP .mul y y = some p1) (hs : ¬ p1 < p0) (ha : 0 < px) (hd : dnI p0 < 0) :
    Calls Tryz.prog 25 #[(.agg #[.float .f64 x, .float .f64 y])] w (Gives (IVN (plc 0) (upP (some p1))) w) := by
  refine calls_sta (sl := [(0, (SF [(Is (.float .f64 x)), (Is (.float .f64 y))]))]) Tryz.func25 rfl Tryz.ntmps25 (by simp) (args_cons rfl (ix_has) args_nil) ?_
  intro a0 S0
  refine wp_stmt_seq [.new (.box 38 (SF [(Is (.float .f64 x)), (Is (.float .f64 y))])), .new (.box 38 (Is (.agg #[.float .f64 0, .float .f64 0])))] [.inl 0, .inl 1] [] follows S0 rfl (by kernel_rfl) ?_ ?_
  · refine ⟨⟨trivial, ?_⟩, ?_⟩
    · exact owe_box rfl wA rfl (oS 0 0) rfl (fun ρ w h => box_ival shp_iv ρ _ _ w h)
    · exact owe_new rfl wA rfl rfl (fun ρ w => alloc_ival ρ _ w)
  intro B1 a1 W1 (S1 : Sta w 43 [(1, (.box 38 (SF [(Is (.float .f64 x)), (Is (.float .f64 y))]))), (2, (.box 38 (Is (.agg #[.float .f64 0, .float .f64 0]))))] [] _ _ _)
  refine wp_stmt_seq [.val (Part a1 1 0), .val (Is (.float .f64 x)), .val (Part a1 1 0), .val (Is (.float .f64 x)), .val (FL (some p0)), .val (FL (some p0))] [.inr 0, .inr 1] [.inl 5] follows S1 rfl (by kernel_rfl) ?_ ?_
  · refine ⟨⟨⟨⟨⟨⟨trivial, ?_⟩, ?_⟩, ?_⟩, ?_⟩, ?_⟩, ?_⟩
    · exact owe_part rfl wA rfl (k := 0) rfl (by kernel_rfl) rfl (fun ρ w b h => part_ival0 ρ _ _ w b 0 h)
    · exact owe_pload rfl wA rfl (oO 0 7) (k := 0) rfl (by kernel_rfl) rfl (fun ρ w b u h1 h2 h3 => ploadI rfl load1_f64 ρ _ _ w b u h1 h2 h3)
    · exact owe_part rfl wA rfl (k := 0) rfl (by kernel_rfl) rfl (fun ρ w b h => part_ival0 ρ _ _ w b 0 h)
    · exact owe_pload rfl wA rfl (oO 2 9) (k := 0) rfl (by kernel_rfl) rfl (fun ρ w b u h1 h2 h3 => ploadI rfl load1_f64 ρ _ _ w b u h1 h2 h3)
    · exact owe_farithS (by simp) rfl wA rfl (oO 1 8) (oO 3 10) h0 rfl
    · exact mO 4 11
  intro B2 a2 W2 (S2 : Sta w 43 [(1, (.box 38 (SF [(Is (.float .f64 x)), (Is (.float .f64 y))]))), (2, (.box 38 (Is (.agg #[.float .f64 0, .float .f64 0]))))] [(3, (FL (some p0)))] _ _ _)
  refine wp_stmt_seq [.val (Part a2 1 1), .val (Is (.float .f64 y)), .val (Part a2 1 1), .val (Is (.float .f64 y)), .val (FL (some p1)), .val (FL (some p1))] [.inr 0, .inr 1] [.inl 5, .inr 0] follows S2 rfl (by kernel_rfl) ?_ ?_
  · refine ⟨⟨⟨⟨⟨⟨trivial, ?_⟩, ?_⟩, ?_⟩, ?_⟩, ?_⟩, ?_⟩
    · exact owe_part rfl wA rfl (k := 0) rfl (by kernel_rfl) rfl (fun ρ w b h => part_ival1 ρ _ _ w b 0 h)
    · exact owe_pload rfl wA rfl (oO 0 12) (k := 0) rfl (by kernel_rfl) rfl (fun ρ w b u h1 h2 h3 => ploadI rfl load1_f64 ρ _ _ w b u h1 h2 h3)
    · exact owe_part rfl wA rfl (k := 0) rfl (by kernel_rfl) rfl (fun ρ w b h => part_ival1 ρ _ _ w b 0 h)
    · exact owe_pload rfl wA rfl (oO 2 14) (k := 0) rfl (by kernel_rfl) rfl (fun ρ w b u h1 h2 h3 => ploadI rfl load1_f64 ρ _ _ w b u h1 h2 h3)
    · exact owe_farithS (by simp) rfl wA rfl (oO 1 13) (oO 3 15) h1 rfl
    · exact mO 4 16
  intro B3 a3 W3 (S3 : Sta w 43 [(1, (.box 38 (SF [(Is (.float .f64 x)), (Is (.float .f64 y))]))), (2, (.box 38 (Is (.agg #[.float .f64 0, .float .f64 0]))))] [(4, (FL (some p1))), (3, (FL (some p0)))] _ _ _)
  refine wp_seq ?_
  refine wp_stmt_seq [.val (FL (some p0)), .val (FL (some p1)), kF] [.inr 0, .inr 1] [.inl 2, .inr 0, .inr 1] follows S3 rfl (by kernel_rfl) ?_ ?_
  · refine ⟨⟨⟨trivial, ?_⟩, ?_⟩, ?_⟩
    · exact mS 1 3
    · exact mS 0 4
    · exact owe_fcmp rfl wA rfl (oO 0 17) (oO 1 18) (gt_f hs) rfl
  intro B4 a4 W4 (S4 : Sta w 43 [(1, (.box 38 (SF [(Is (.float .f64 x)), (Is (.float .f64 y))]))), (2, (.box 38 (Is (.agg #[.float .f64 0, .float .f64 0]))))] [(19, bF), (4, (FL (some p1))), (3, (FL (some p0)))] _ _ _)
  refine wp_cond_false (S4.bool 0 19 rfl) ?_
  refine wp_skip ?_
  refine thenN ?_
  refine wp_stmt_seq [.val (FL (some p0)), .val (FL (dnP (some p0))), .val (FL (some p1)), .val (FL (upP (some p1))), .val (SF [(FL (dnP (some p0))), (FL (upP (some p1)))]), .new (.box 38 (Is (.agg #[.float .f64 0, .float .f64 0]))), .put (.inr 5) (.box 38 (SF [(FL (dnP (some p0))), (FL (upP (some p1)))]))] [.inr 0, .inr 1, .inl 5] [] follows S4 rfl (by kernel_rfl) ?_ ?_
  · repeat' refine And.intro ?_ ?_
    · trivial
    · exact mS 2 3
    · exact cc1 wA (qO 0 23 rfl) (fresh_fl _) h_rdown
    · exact mS 1 4
    · exact cc1 wA (qO 2 25 rfl) (fresh_fl _) h_rup
    · exact owe_build_iv rfl wA rfl (oO 1 24) (oO 3 26) flt_fl flt_fl rfl
    · exact owe_new rfl wA rfl rfl (fun ρ w => alloc_ival ρ _ w)
    · exact owe_put 5 rfl wA rfl (by kernel_rfl) rfl (oO 4 27) (stores_of strct_ival shp_i0 shp_iv) rfl
  intro B5 a5 W5 (S5 : Sta w 43 [(1, (.box 38 (SF [(Is (.float .f64 x)), (Is (.float .f64 y))]))), (2, (.box 38 (Is (.agg #[.float .f64 0, .float .f64 0])))), (6, (.box 38 (SF [(FL (dnP (some p0))), (FL (upP (some p1)))])))] [] _ _ _)
  refine wp_seq ?_
  refine wp_stmt_seq [.val (Part a5 1 0), .val (Is (.float .f64 x)), kF, kF, .off, .off, .off, kF, kF, .val (Part a5 6 0), .val (FL (dnP (some p0))), kT, kT] [.inr 0, .inr 1, .inr 2] [.inl 12] follows S5 rfl (by kernel_rfl) ?_ ?_
  · repeat' refine And.intro ?_ ?_
    · trivial
    · exact owe_part rfl wA rfl (k := 0) rfl (by kernel_rfl) rfl (fun ρ w b h => part_ival0 ρ _ _ w b 0 h)
    · exact owe_pload rfl wA rfl (oO 0 28) (k := 0) rfl (by kernel_rfl) rfl (fun ρ w b u h1 h2 h3 => ploadI rfl load1_f64 ρ _ _ w b u h1 h2 h3)
    · exact owe_fcmp rfl wA rfl ((oO 1 29).imp (fl_is hx)) ((opnd_const _).imp (fl_is (by decide))) (le0_f hpx ha) rfl
    · exact mO 2 30
    · exact oF 3 31
    · exact oF 3 31
    · exact oF 3 31
    · exact pF wA (oO 3 31) (opnd_const _)
    · exact mO 7 35
    · exact owe_part rfl (wI 8 36) rfl (k := 2) rfl (by kernel_rfl) rfl (fun ρ w b h => part_ival0 ρ _ _ w b 0 h)
    · exact owe_pload rfl (wI 8 36) rfl (oO 9 37) (k := 2) rfl (by kernel_rfl) rfl (fun ρ w b u h1 h2 h3 => ploadI rfl load1_f64 ρ _ _ w b u h1 h2 h3)
    · exact owe_fcmp rfl (wI 8 36) rfl (oO 10 38) ((opnd_const _).imp (fl_is (by decide))) (lt_t (p := dnI p0) hd) rfl
    · exact pF wA (oO 8 36) (oO 11 39)
  intro B6 a6 W6 (S6 : Sta w 43 [(1, (.box 38 (SF [(Is (.float .f64 x)), (Is (.float .f64 y))]))), (2, (.box 38 (Is (.agg #[.float .f64 0, .float .f64 0])))), (6, (.box 38 (SF [(FL (dnP (some p0))), (FL (upP (some p1)))])))] [(40, bT)] _ _ _)
  refine wp_cond_true (S6.bool 0 40 rfl) ?_
  refine wp_stmt [.val (Part a6 6 0), .put (.inl 6) (.box 38 (SF [(FL (plc 0)), (FL (upP (some p1)))]))] [.inr 0, .inr 1, .inr 2] [] follows S6 rfl (by kernel_rfl) ?_ ?_
  · refine ⟨⟨trivial, ?_⟩, ?_⟩
    · exact owe_part rfl wA rfl (k := 2) rfl (by kernel_rfl) rfl (fun ρ w b h => part_ival0 ρ _ _ w b 0 h)
    · exact owe_pput (f := 0) rfl wA rfl (oO 0 41) (k := 2) rfl (by kernel_rfl) ((opnd_const _).imp (fl_is (by decide))) flt_fl (Nat.le_of_ble_eq_true rfl) rfl
  intro B7 a7 W7 (S7 : Sta w 43 [(1, (.box 38 (SF [(Is (.float .f64 x)), (Is (.float .f64 y))]))), (2, (.box 38 (Is (.agg #[.float .f64 0, .float .f64 0])))), (6, (.box 38 (SF [(FL (plc 0)), (FL (upP (some p1)))])))] [] _ _ _)
  refine thenN ?_
  refine wp_stmt_seq [.val (SF [(FL (plc 0)), (FL (upP (some p1)))]), .put (.inl 2) (.box 38 (SF [(FL (plc 0)), (FL (upP (some p1)))]))] [.inr 0, .inr 1, .inr 2] [] follows S7 rfl (by kernel_rfl) ?_ ?_
  · refine ⟨⟨trivial, ?_⟩, ?_⟩
    · exact lod 2 wA (loads_of strct_ival shp_iv)
    · exact owe_set rfl wA rfl (k := 1) rfl (by kernel_rfl) (oO 0 42) (stores_of strct_ival shp_i0 shp_iv) rfl
  intro B8 a8 W8 (S8 : Sta w 43 [(1, (.box 38 (SF [(Is (.float .f64 x)), (Is (.float .f64 y))]))), (2, (.box 38 (SF [(FL (plc 0)), (FL (upP (some p1)))]))), (6, (.box 38 (SF [(FL (plc 0)), (FL (upP (some p1)))])))] [] _ _ _)
  refine wp_ret ?_
  exact end_one S8 rfl (res_cell S8 1 2 rfl strct_ival shp_iv)
set_option maxHeartbeats 1000000 in
theorem rsqr_E0 (w : World) (x y : Nat) (hx : x < 18446744073709551616) (hy : y < 18446744073709551616) (px py p0 p1 : Int) (hpx : plc x = some px) (hpy : plc y = some py) (h0 : arP .mul x x = some p0) (h1 : arP .mul y y = some p1) (hs : ¬ p1 < p0) (ha : 0 < px) (hd : ¬ dnI p0 < 0) :
    Calls Tryz.prog 25 #[(.agg #[.float .f64 x, .float .f64 y])] w (Gives (IVN (dnP (some p0)) (upP (some p1))) w) := by
  refine calls_sta (sl := [(0, (SF [(Is (.float .f64 x)), (Is (.float .f64 y))]))]) Tryz.func25 rfl Tryz.ntmps25 (by simp) (args_cons rfl (ix_has) args_nil) ?_
  intro a0 S0
  refine wp_stmt_seq [.new (.box 38 (SF [(Is (.float .f64 x)), (Is (.float .f64 y))])), .new (.box 38 (Is (.agg #[.float .f64 0, .float .f64 0])))] [.inl 0, .inl 1] [] follows S0 rfl (by kernel_rfl) ?_ ?_
  · refine ⟨⟨trivial, ?_⟩, ?_⟩
    · exact owe_box rfl wA rfl (oS 0 0) rfl (fun ρ w h => box_ival shp_iv ρ _ _ w h)
    · exact owe_new rfl wA rfl rfl (fun ρ w => alloc_ival ρ _ w)
  intro B1 a1 W1 (S1 : Sta w 43 [(1, (.box 38 (SF [(Is (.float .f64 x)), (Is (.float .f64 y))]))), (2, (.box 38 (Is (.agg #[.float .f64 0, .float .f64 0]))))] [] _ _ _)
  refine wp_stmt_seq [.val (Part a1 1 0), .val (Is (.float .f64 x)), .val (Part a1 1 0), .val (Is (.float .f64 x)), .val (FL (some p0)), .val (FL (some p0))] [.inr 0, .inr 1] [.inl 5] follows S1 rfl (by kernel_rfl) ?_ ?_
  · refine ⟨⟨⟨⟨⟨⟨trivial, ?_⟩, ?_⟩, ?_⟩, ?_⟩, ?_⟩, ?_⟩
    · exact owe_part rfl wA rfl (k := 0) rfl (by kernel_rfl) rfl (fun ρ w b h => part_ival0 ρ _ _ w b 0 h)
    · exact owe_pload rfl wA rfl (oO 0 7) (k := 0) rfl (by kernel_rfl) rfl (fun ρ w b u h1 h2 h3 => ploadI rfl load1_f64 ρ _ _ w b u h1 h2 h3)
    · exact owe_part rfl wA rfl (k := 0) rfl (by kernel_rfl) rfl (fun ρ w b h => part_ival0 ρ _ _ w b 0 h)
    · exact owe_pload rfl wA rfl (oO 2 9) (k := 0) rfl (by kernel_rfl) rfl (fun ρ w b u h1 h2 h3 => ploadI rfl load1_f64 ρ _ _ w b u h1 h2 h3)
    · exact owe_farithS (by simp) rfl wA rfl (oO 1 8) (oO 3 10) h0 rfl
    · exact mO 4 11
  intro B2 a2 W2 (S2 : Sta w 43 [(1, (.box 38 (SF [(Is (.float .f64 x)), (Is (.float .f64 y))]))), (2, (.box 38 (Is (.agg #[.float .f64 0, .float .f64 0]))))] [(3, (FL (some p0)))] _ _ _)
  refine wp_stmt_seq [.val (Part a2 1 1), .val (Is (.float .f64 y)), .val (Part a2 1 1), .val (Is (.float .f64 y)), .val (FL (some p1)), .val (FL (some p1))] [.inr 0, .inr 1] [.inl 5, .inr 0] follows S2 rfl (by kernel_rfl) ?_ ?_
  · refine ⟨⟨⟨⟨⟨⟨trivial, ?_⟩, ?_⟩, ?_⟩, ?_⟩, ?_⟩, ?_⟩
    · exact owe_part rfl wA rfl (k := 0) rfl (by kernel_rfl) rfl (fun ρ w b h => part_ival1 ρ _ _ w b 0 h)
    · exact owe_pload rfl wA rfl (oO 0 12) (k := 0) rfl (by kernel_rfl) rfl (fun ρ w b u h1 h2 h3 => ploadI rfl load1_f64 ρ _ _ w b u h1 h2 h3)
    · exact owe_part rfl wA rfl (k := 0) rfl (by kernel_rfl) rfl (fun ρ w b h => part_ival1 ρ _ _ w b 0 h)
    · exact owe_pload rfl wA rfl (oO 2 14) (k := 0) rfl (by kernel_rfl) rfl (fun ρ w b u h1 h2 h3 => ploadI rfl load1_f64 ρ _ _ w b u h1 h2 h3)
    · exact owe_farithS (by simp) rfl wA rfl (oO 1 13) (oO 3 15) h1 rfl
    · exact mO 4 16
  intro B3 a3 W3 (S3 : Sta w 43 [(1, (.box 38 (SF [(Is (.float .f64 x)), (Is (.float .f64 y))]))), (2, (.box 38 (Is (.agg #[.float .f64 0, .float .f64 0]))))] [(4, (FL (some p1))), (3, (FL (some p0)))] _ _ _)
  refine wp_seq ?_
  refine wp_stmt_seq [.val (FL (some p0)), .val (FL (some p1)), kF] [.inr 0, .inr 1] [.inl 2, .inr 0, .inr 1] follows S3 rfl (by kernel_rfl) ?_ ?_
  · refine ⟨⟨⟨trivial, ?_⟩, ?_⟩, ?_⟩
    · exact mS 1 3
    · exact mS 0 4
    · exact owe_fcmp rfl wA rfl (oO 0 17) (oO 1 18) (gt_f hs) rfl
  intro B4 a4 W4 (S4 : Sta w 43 [(1, (.box 38 (SF [(Is (.float .f64 x)), (Is (.float .f64 y))]))), (2, (.box 38 (Is (.agg #[.float .f64 0, .float .f64 0]))))] [(19, bF), (4, (FL (some p1))), (3, (FL (some p0)))] _ _ _)
  refine wp_cond_false (S4.bool 0 19 rfl) ?_
  refine wp_skip ?_
  refine thenN ?_
  refine wp_stmt_seq [.val (FL (some p0)), .val (FL (dnP (some p0))), .val (FL (some p1)), .val (FL (upP (some p1))), .val (SF [(FL (dnP (some p0))), (FL (upP (some p1)))]), .new (.box 38 (Is (.agg #[.float .f64 0, .float .f64 0]))), .put (.inr 5) (.box 38 (SF [(FL (dnP (some p0))), (FL (upP (some p1)))]))] [.inr 0, .inr 1, .inl 5] [] follows S4 rfl (by kernel_rfl) ?_ ?_
  · repeat' refine And.intro ?_ ?_
    · trivial
    · exact mS 2 3
    · exact cc1 wA (qO 0 23 rfl) (fresh_fl _) h_rdown
    · exact mS 1 4
    · exact cc1 wA (qO 2 25 rfl) (fresh_fl _) h_rup
    · exact owe_build_iv rfl wA rfl (oO 1 24) (oO 3 26) flt_fl flt_fl rfl
    · exact owe_new rfl wA rfl rfl (fun ρ w => alloc_ival ρ _ w)
    · exact owe_put 5 rfl wA rfl (by kernel_rfl) rfl (oO 4 27) (stores_of strct_ival shp_i0 shp_iv) rfl
  intro B5 a5 W5 (S5 : Sta w 43 [(1, (.box 38 (SF [(Is (.float .f64 x)), (Is (.float .f64 y))]))), (2, (.box 38 (Is (.agg #[.float .f64 0, .float .f64 0])))), (6, (.box 38 (SF [(FL (dnP (some p0))), (FL (upP (some p1)))])))] [] _ _ _)
  refine wp_seq ?_
  refine wp_stmt_seq [.val (Part a5 1 0), .val (Is (.float .f64 x)), kF, kF, .off, .off, .off, kF, kF, .val (Part a5 6 0), .val (FL (dnP (some p0))), kF, kF] [.inr 0, .inr 1, .inr 2] [.inl 12] follows S5 rfl (by kernel_rfl) ?_ ?_
  · repeat' refine And.intro ?_ ?_
    · trivial
    · exact owe_part rfl wA rfl (k := 0) rfl (by kernel_rfl) rfl (fun ρ w b h => part_ival0 ρ _ _ w b 0 h)
    · exact owe_pload rfl wA rfl (oO 0 28) (k := 0) rfl (by kernel_rfl) rfl (fun ρ w b u h1 h2 h3 => ploadI rfl load1_f64 ρ _ _ w b u h1 h2 h3)
    · exact owe_fcmp rfl wA rfl ((oO 1 29).imp (fl_is hx)) ((opnd_const _).imp (fl_is (by decide))) (le0_f hpx ha) rfl
    · exact mO 2 30
    · exact oF 3 31
    · exact oF 3 31
    · exact oF 3 31
    · exact pF wA (oO 3 31) (opnd_const _)
    · exact mO 7 35
    · exact owe_part rfl (wI 8 36) rfl (k := 2) rfl (by kernel_rfl) rfl (fun ρ w b h => part_ival0 ρ _ _ w b 0 h)
    · exact owe_pload rfl (wI 8 36) rfl (oO 9 37) (k := 2) rfl (by kernel_rfl) rfl (fun ρ w b u h1 h2 h3 => ploadI rfl load1_f64 ρ _ _ w b u h1 h2 h3)
    · exact owe_fcmp rfl (wI 8 36) rfl (oO 10 38) ((opnd_const _).imp (fl_is (by decide))) (lt_f (p := dnI p0) hd) rfl
    · exact pF wA (oO 8 36) (oO 11 39)
  intro B6 a6 W6 (S6 : Sta w 43 [(1, (.box 38 (SF [(Is (.float .f64 x)), (Is (.float .f64 y))]))), (2, (.box 38 (Is (.agg #[.float .f64 0, .float .f64 0])))), (6, (.box 38 (SF [(FL (dnP (some p0))), (FL (upP (some p1)))])))] [(40, bF)] _ _ _)
  refine wp_cond_false (S6.bool 0 40 rfl) ?_
  refine wp_skip ?_
  refine thenN ?_
  refine wp_stmt_seq [.val (SF [(FL (dnP (some p0))), (FL (upP (some p1)))]), .put (.inl 2) (.box 38 (SF [(FL (dnP (some p0))), (FL (upP (some p1)))]))] [.inr 0, .inr 1, .inr 2] [] follows S6 rfl (by kernel_rfl) ?_ ?_
  · refine ⟨⟨trivial, ?_⟩, ?_⟩
    · exact lod 2 wA (loads_of strct_ival shp_iv)
    · exact owe_set rfl wA rfl (k := 1) rfl (by kernel_rfl) (oO 0 42) (stores_of strct_ival shp_i0 shp_iv) rfl
  intro B7 a7 W7 (S7 : Sta w 43 [(1, (.box 38 (SF [(Is (.float .f64 x)), (Is (.float .f64 y))]))), (2, (.box 38 (SF [(FL (dnP (some p0))), (FL (upP (some p1)))]))), (6, (.box 38 (SF [(FL (dnP (some p0))), (FL (upP (some p1)))])))] [] _ _ _)
  refine wp_ret ?_
  exact end_one S7 rfl (res_cell S7 1 2 rfl strct_ival shp_iv)
set_option maxHeartbeats 1000000 in
theorem rsqr_A1 (w : World) (x y : Nat) (hx : x < 18446744073709551616) (hy : y < 18446744073709551616) (px py p0 p1 : Int) (hpx : plc x = some px) (hpy : plc y = some py) (h0 : arP .mul x x = some p0) (h1 : arP .mul y y = some p1) (hs : p1 < p0) (ha : px ≤ 0) (hb : 0 ≤ py) :
    Calls Tryz.prog 25 #[(.agg #[.float .f64 x, .float .f64 y])] w (Gives (IVN (plc 0) (upP (some p0))) w) := by
  refine calls_sta (sl := [(0, (SF [(Is (.float .f64 x)), (Is (.float .f64 y))]))]) Tryz.func25 rfl Tryz.ntmps25 (by simp) (args_cons rfl (ix_has) args_nil) ?_
  intro a0 S0
  refine wp_stmt_seq [.new (.box 38 (SF [(Is (.float .f64 x)), (Is (.float .f64 y))])), .new (.box 38 (Is (.agg #[.float .f64 0, .float .f64 0])))] [.inl 0, .inl 1] [] follows S0 rfl (by kernel_rfl) ?_ ?_
  · refine ⟨⟨trivial, ?_⟩, ?_⟩
    · exact owe_box rfl wA rfl (oS 0 0) rfl (fun ρ w h => box_ival shp_iv ρ _ _ w h)
    · exact owe_new rfl wA rfl rfl (fun ρ w => alloc_ival ρ _ w)
  intro B1 a1 W1 (S1 : Sta w 43 [(1, (.box 38 (SF [(Is (.float .f64 x)), (Is (.float .f64 y))]))), (2, (.box 38 (Is (.agg #[.float .f64 0, .float .f64 0]))))] [] _ _ _)
  refine wp_stmt_seq [.val (Part a1 1 0), .val (Is (.float .f64 x)), .val (Part a1 1 0), .val (Is (.float .f64 x)), .val (FL (some p0)), .val (FL (some p0))] [.inr 0, .inr 1] [.inl 5] follows S1 rfl (by kernel_rfl) ?_ ?_
  · refine ⟨⟨⟨⟨⟨⟨trivial, ?_⟩, ?_⟩, ?_⟩, ?_⟩, ?_⟩, ?_⟩
    · exact owe_part rfl wA rfl (k := 0) rfl (by kernel_rfl) rfl (fun ρ w b h => part_ival0 ρ _ _ w b 0 h)
    · exact owe_pload rfl wA rfl (oO 0 7) (k := 0) rfl (by kernel_rfl) rfl (fun ρ w b u h1 h2 h3 => ploadI rfl load1_f64 ρ _ _ w b u h1 h2 h3)
    · exact owe_part rfl wA rfl (k := 0) rfl (by kernel_rfl) rfl (fun ρ w b h => part_ival0 ρ _ _ w b 0 h)
    · exact owe_pload rfl wA rfl (oO 2 9) (k := 0) rfl (by kernel_rfl) rfl (fun ρ w b u h1 h2 h3 => ploadI rfl load1_f64 ρ _ _ w b u h1 h2 h3)
    · exact owe_farithS (by simp) rfl wA rfl (oO 1 8) (oO 3 10) h0 rfl
    · exact mO 4 11
  intro B2 a2 W2 (S2 : Sta w 43 [(1, (.box 38 (SF [(Is (.float .f64 x)), (Is (.float .f64 y))]))), (2, (.box 38 (Is (.agg #[.float .f64 0, .float .f64 0]))))] [(3, (FL (some p0)))] _ _ _)
  refine wp_stmt_seq [.val (Part a2 1 1), .val (Is (.float .f64 y)), .val (Part a2 1 1), .val (Is (.float .f64 y)), .val (FL (some p1)), .val (FL (some p1))] [.inr 0, .inr 1] [.inl 5, .inr 0] follows S2 rfl (by kernel_rfl) ?_ ?_
  · refine ⟨⟨⟨⟨⟨⟨trivial, ?_⟩, ?_⟩, ?_⟩, ?_⟩, ?_⟩, ?_⟩
    · exact owe_part rfl wA rfl (k := 0) rfl (by kernel_rfl) rfl (fun ρ w b h => part_ival1 ρ _ _ w b 0 h)
    · exact owe_pload rfl wA rfl (oO 0 12) (k := 0) rfl (by kernel_rfl) rfl (fun ρ w b u h1 h2 h3 => ploadI rfl load1_f64 ρ _ _ w b u h1 h2 h3)
    · exact owe_part rfl wA rfl (k := 0) rfl (by kernel_rfl) rfl (fun ρ w b h => part_ival1 ρ _ _ w b 0 h)
    · exact owe_pload rfl wA rfl (oO 2 14) (k := 0) rfl (by kernel_rfl) rfl (fun ρ w b u h1 h2 h3 => ploadI rfl load1_f64 ρ _ _ w b u h1 h2 h3)
    · exact owe_farithS (by simp) rfl wA rfl (oO 1 13) (oO 3 15) h1 rfl
    · exact mO 4 16
  intro B3 a3 W3 (S3 : Sta w 43 [(1, (.box 38 (SF [(Is (.float .f64 x)), (Is (.float .f64 y))]))), (2, (.box 38 (Is (.agg #[.float .f64 0, .float .f64 0]))))] [(4, (FL (some p1))), (3, (FL (some p0)))] _ _ _)
  refine wp_seq ?_
  refine wp_stmt_seq [.val (FL (some p0)), .val (FL (some p1)), kT] [.inr 0, .inr 1] [.inl 2, .inr 0, .inr 1] follows S3 rfl (by kernel_rfl) ?_ ?_
  · refine ⟨⟨⟨trivial, ?_⟩, ?_⟩, ?_⟩
    · exact mS 1 3
    · exact mS 0 4
    · exact owe_fcmp rfl wA rfl (oO 0 17) (oO 1 18) (gt_t hs) rfl
  intro B4 a4 W4 (S4 : Sta w 43 [(1, (.box 38 (SF [(Is (.float .f64 x)), (Is (.float .f64 y))]))), (2, (.box 38 (Is (.agg #[.float .f64 0, .float .f64 0]))))] [(19, bT), (4, (FL (some p1))), (3, (FL (some p0)))] _ _ _)
  refine wp_cond_true (S4.bool 0 19 rfl) ?_
  refine wp_stmt_seq [.val (FL (some p0)), .val (FL (some p0))] [.inr 0, .inr 1] [.inl 1, .inr 1] follows S4 rfl (by kernel_rfl) ?_ ?_
  · refine ⟨⟨trivial, ?_⟩, ?_⟩
    · exact mS 2 3
    · exact mO 0 20
  intro B5 a5 W5 (S5 : Sta w 43 [(1, (.box 38 (SF [(Is (.float .f64 x)), (Is (.float .f64 y))]))), (2, (.box 38 (Is (.agg #[.float .f64 0, .float .f64 0]))))] [(5, (FL (some p0))), (4, (FL (some p1)))] _ _ _)
  refine wp_stmt_seq [.val (FL (some p1)), .val (FL (some p1))] [.inr 0, .inr 1] [.inl 1, .inr 0] follows S5 rfl (by kernel_rfl) ?_ ?_
  · refine ⟨⟨trivial, ?_⟩, ?_⟩
    · exact mS 1 4
    · exact mO 0 21
  intro B6 a6 W6 (S6 : Sta w 43 [(1, (.box 38 (SF [(Is (.float .f64 x)), (Is (.float .f64 y))]))), (2, (.box 38 (Is (.agg #[.float .f64 0, .float .f64 0]))))] [(3, (FL (some p1))), (5, (FL (some p0)))] _ _ _)
  refine wp_stmt [.val (FL (some p0)), .val (FL (some p0))] [.inr 0, .inr 1] [.inl 1, .inr 0] follows S6 rfl (by kernel_rfl) ?_ ?_
  · refine ⟨⟨trivial, ?_⟩, ?_⟩
    · exact mS 1 5
    · exact mO 0 22
  intro B7 a7 W7 (S7 : Sta w 43 [(1, (.box 38 (SF [(Is (.float .f64 x)), (Is (.float .f64 y))]))), (2, (.box 38 (Is (.agg #[.float .f64 0, .float .f64 0]))))] [(4, (FL (some p0))), (3, (FL (some p1)))] _ _ _)
  refine thenN ?_
  refine wp_stmt_seq [.val (FL (some p1)), .val (FL (dnP (some p1))), .val (FL (some p0)), .val (FL (upP (some p0))), .val (SF [(FL (dnP (some p1))), (FL (upP (some p0)))]), .new (.box 38 (Is (.agg #[.float .f64 0, .float .f64 0]))), .put (.inr 5) (.box 38 (SF [(FL (dnP (some p1))), (FL (upP (some p0)))]))] [.inr 0, .inr 1, .inl 5] [] follows S7 rfl (by kernel_rfl) ?_ ?_
  · repeat' refine And.intro ?_ ?_
    · trivial
    · exact mS 1 3
    · exact cc1 wA (qO 0 23 rfl) (fresh_fl _) h_rdown
    · exact mS 0 4
    · exact cc1 wA (qO 2 25 rfl) (fresh_fl _) h_rup
    · exact owe_build_iv rfl wA rfl (oO 1 24) (oO 3 26) flt_fl flt_fl rfl
    · exact owe_new rfl wA rfl rfl (fun ρ w => alloc_ival ρ _ w)
    · exact owe_put 5 rfl wA rfl (by kernel_rfl) rfl (oO 4 27) (stores_of strct_ival shp_i0 shp_iv) rfl
  intro B8 a8 W8 (S8 : Sta w 43 [(1, (.box 38 (SF [(Is (.float .f64 x)), (Is (.float .f64 y))]))), (2, (.box 38 (Is (.agg #[.float .f64 0, .float .f64 0])))), (6, (.box 38 (SF [(FL (dnP (some p1))), (FL (upP (some p0)))])))] [] _ _ _)
  refine wp_seq ?_
  refine wp_stmt_seq [.val (Part a8 1 0), .val (Is (.float .f64 x)), kT, kT, .val (Part a8 1 1), .val (Is (.float .f64 y)), kT, kT, kT, .off, .off, .off, kT] [.inr 0, .inr 1, .inr 2] [.inl 12] follows S8 rfl (by kernel_rfl) ?_ ?_
  · repeat' refine And.intro ?_ ?_
    · trivial
    · exact owe_part rfl wA rfl (k := 0) rfl (by kernel_rfl) rfl (fun ρ w b h => part_ival0 ρ _ _ w b 0 h)
    · exact owe_pload rfl wA rfl (oO 0 28) (k := 0) rfl (by kernel_rfl) rfl (fun ρ w b u h1 h2 h3 => ploadI rfl load1_f64 ρ _ _ w b u h1 h2 h3)
    · exact owe_fcmp rfl wA rfl ((oO 1 29).imp (fl_is hx)) ((opnd_const _).imp (fl_is (by decide))) (le0_t hpx ha) rfl
    · exact mO 2 30
    · exact owe_part rfl (wI 3 31) rfl (k := 0) rfl (by kernel_rfl) rfl (fun ρ w b h => part_ival1 ρ _ _ w b 0 h)
    · exact owe_pload rfl (wI 3 31) rfl (oO 4 32) (k := 0) rfl (by kernel_rfl) rfl (fun ρ w b u h1 h2 h3 => ploadI rfl load1_f64 ρ _ _ w b u h1 h2 h3)
    · exact owe_fcmp rfl (wI 3 31) rfl ((oO 5 33).imp (fl_is hy)) ((opnd_const _).imp (fl_is (by decide))) (ge0_t hpy hb) rfl
    · exact pT wA (oO 3 31) (oO 6 34)
    · exact mO 7 35
    · exact oF 8 36
    · exact oF 8 36
    · exact oF 8 36
    · exact pT wA (oO 8 36) (opnd_const _)
  intro B9 a9 W9 (S9 : Sta w 43 [(1, (.box 38 (SF [(Is (.float .f64 x)), (Is (.float .f64 y))]))), (2, (.box 38 (Is (.agg #[.float .f64 0, .float .f64 0])))), (6, (.box 38 (SF [(FL (dnP (some p1))), (FL (upP (some p0)))])))] [(40, bT)] _ _ _)
  refine wp_cond_true (S9.bool 0 40 rfl) ?_
  refine wp_stmt [.val (Part a9 6 0), .put (.inl 6) (.box 38 (SF [(FL (plc 0)), (FL (upP (some p0)))]))] [.inr 0, .inr 1, .inr 2] [] follows S9 rfl (by kernel_rfl) ?_ ?_
  · refine ⟨⟨trivial, ?_⟩, ?_⟩
    · exact owe_part rfl wA rfl (k := 2) rfl (by kernel_rfl) rfl (fun ρ w b h => part_ival0 ρ _ _ w b 0 h)
    · exact owe_pput (f := 0) rfl wA rfl (oO 0 41) (k := 2) rfl (by kernel_rfl) ((opnd_const _).imp (fl_is (by decide))) flt_fl (Nat.le_of_ble_eq_true rfl) rfl
  intro B10 a10 W10 (S10 : Sta w 43 [(1, (.box 38 (SF [(Is (.float .f64 x)), (Is (.float .f64 y))]))), (2, (.box 38 (Is (.agg #[.float .f64 0, .float .f64 0])))), (6, (.box 38 (SF [(FL (plc 0)), (FL (upP (some p0)))])))] [] _ _ _)
  refine thenN ?_
  refine wp_stmt_seq [.val (SF [(FL (plc 0)), (FL (upP (some p0)))]), .put (.inl 2) (.box 38 (SF [(FL (plc 0)), (FL (upP (some p0)))]))] [.inr 0, .inr 1, .inr 2] [] follows S10 rfl (by kernel_rfl) ?_ ?_
  · refine ⟨⟨trivial, ?_⟩, ?_⟩
    · exact lod 2 wA (loads_of strct_ival shp_iv)
    · exact owe_set rfl wA rfl (k := 1) rfl (by kernel_rfl) (oO 0 42) (stores_of strct_ival shp_i0 shp_iv) rfl
  intro B11 a11 W11 (S11 : Sta w 43 [(1, (.box 38 (SF [(Is (.float .f64 x)), (Is (.float .f64 y))]))), (2, (.box 38 (SF [(FL (plc 0)), (FL (upP (some p0)))]))), (6, (.box 38 (SF [(FL (plc 0)), (FL (upP (some p0)))])))] [] _ _ _)
  refine wp_ret ?_
  exact end_one S11 rfl (res_cell S11 1 2 rfl strct_ival shp_iv)
set_option maxHeartbeats 1000000 in
theorem rsqr_B1 (w : World) (x y : Nat) (hx : x < 18446744073709551616) (hy : y < 18446744073709551616) (px py p0 p1 : Int) (hpx : plc x = some px) (hpy : plc y = some py) (h0 : arP .mul x x = some p0) (h1 : arP .mul y y = some p1) (hs : p1 < p0) (ha : px ≤ 0) (hb : py < 0) (hd : dnI p1 < 0) :
    Calls Tryz.prog 25 #[(.agg #[.float .f64 x, .float .f64 y])] w (Gives (IVN (plc 0) (upP (some p0))) w) := by
  refine calls_sta (sl := [(0, (SF [(Is (.float .f64 x)), (Is (.float .f64 y))]))]) Tryz.func25 rfl Tryz.ntmps25 (by simp) (args_cons rfl (ix_has) args_nil) ?_
  intro a0 S0
  refine wp_stmt_seq [.new (.box 38 (SF [(Is (.float .f64 x)), (Is (.float .f64 y))])), .new (.box 38 (Is (.agg #[.float .f64 0, .float .f64 0])))] [.inl 0, .inl 1] [] follows S0 rfl (by kernel_rfl) ?_ ?_
  · refine ⟨⟨trivial, ?_⟩, ?_⟩
    · exact owe_box rfl wA rfl (oS 0 0) rfl (fun ρ w h => box_ival shp_iv ρ _ _ w h)
    · exact owe_new rfl wA rfl rfl (fun ρ w => alloc_ival ρ _ w)
  intro B1 a1 W1 (S1 : Sta w 43 [(1, (.box 38 (SF [(Is (.float .f64 x)), (Is (.float .f64 y))]))), (2, (.box 38 (Is (.agg #[.float .f64 0, .float .f64 0]))))] [] _ _ _)
  refine wp_stmt_seq [.val (Part a1 1 0), .val (Is (.float .f64 x)), .val (Part a1 1 0), .val (Is (.float .f64 x)), .val (FL (some p0)), .val (FL (some p0))] [.inr 0, .inr 1] [.inl 5] follows S1 rfl (by kernel_rfl) ?_ ?_
  · refine ⟨⟨⟨⟨⟨⟨trivial, ?_⟩, ?_⟩, ?_⟩, ?_⟩, ?_⟩, ?_⟩
    · exact owe_part rfl wA rfl (k := 0) rfl (by kernel_rfl) rfl (fun ρ w b h => part_ival0 ρ _ _ w b 0 h)
    · exact owe_pload rfl wA rfl (oO 0 7) (k := 0) rfl (by kernel_rfl) rfl (fun ρ w b u h1 h2 h3 => ploadI rfl load1_f64 ρ _ _ w b u h1 h2 h3)
    · exact owe_part rfl wA rfl (k := 0) rfl (by kernel_rfl) rfl (fun ρ w b h => part_ival0 ρ _ _ w b 0 h)
    · exact owe_pload rfl wA rfl (oO 2 9) (k := 0) rfl (by kernel_rfl) rfl (fun ρ w b u h1 h2 h3 => ploadI rfl load1_f64 ρ _ _ w b u h1 h2 h3)
    · exact owe_farithS (by simp) rfl wA rfl (oO 1 8) (oO 3 10) h0 rfl
    · exact mO 4 11
  intro B2 a2 W2 (S2 : Sta w 43 [(1, (.box 38 (SF [(Is (.float .f64 x)), (Is (.float .f64 y))]))), (2, (.box 38 (Is (.agg #[.float .f64 0, .float .f64 0]))))] [(3, (FL (some p0)))] _ _ _)
  refine wp_stmt_seq [.val (Part a2 1 1), .val (Is (.float .f64 y)), .val (Part a2 1 1), .val (Is (.float .f64 y)), .val (FL (some p1)), .val (FL (some p1))] [.inr 0, .inr 1] [.inl 5, .inr 0] follows S2 rfl (by kernel_rfl) ?_ ?_
  · refine ⟨⟨⟨⟨⟨⟨trivial, ?_⟩, ?_⟩, ?_⟩, ?_⟩, ?_⟩, ?_⟩
    · exact owe_part rfl wA rfl (k := 0) rfl (by kernel_rfl) rfl (fun ρ w b h => part_ival1 ρ _ _ w b 0 h)
    · exact owe_pload rfl wA rfl (oO 0 12) (k := 0) rfl (by kernel_rfl) rfl (fun ρ w b u h1 h2 h3 => ploadI rfl load1_f64 ρ _ _ w b u h1 h2 h3)
    · exact owe_part rfl wA rfl (k := 0) rfl (by kernel_rfl) rfl (fun ρ w b h => part_ival1 ρ _ _ w b 0 h)
    · exact owe_pload rfl wA rfl (oO 2 14) (k := 0) rfl (by kernel_rfl) rfl (fun ρ w b u h1 h2 h3 => ploadI rfl load1_f64 ρ _ _ w b u h1 h2 h3)
    · exact owe_farithS (by simp) rfl wA rfl (oO 1 13) (oO 3 15) h1 rfl
    · exact mO 4 16
  intro B3 a3 W3 (S3 : Sta w 43 [(1, (.box 38 (SF [(Is (.float .f64 x)), (Is (.float .f64 y))]))), (2, (.box 38 (Is (.agg #[.float .f64 0, .float .f64 0]))))] [(4, (FL (some p1))), (3, (FL (some p0)))] _ _ _)
  refine wp_seq ?_
  refine wp_stmt_seq [.val (FL (some p0)), .val (FL (some p1)), kT] [.inr 0, .inr 1] [.inl 2, .inr 0, .inr 1] follows S3 rfl (by kernel_rfl) ?_ ?_
  · refine ⟨⟨⟨trivial, ?_⟩, ?_⟩, ?_⟩
    · exact mS 1 3
    · exact mS 0 4
    · exact owe_fcmp rfl wA rfl (oO 0 17) (oO 1 18) (gt_t hs) rfl
  intro B4 a4 W4 (S4 : Sta w 43 [(1, (.box 38 (SF [(Is (.float .f64 x)), (Is (.float .f64 y))]))), (2, (.box 38 (Is (.agg #[.float .f64 0, .float .f64 0]))))] [(19, bT), (4, (FL (some p1))), (3, (FL (some p0)))] _ _ _)
  refine wp_cond_true (S4.bool 0 19 rfl) ?_
  refine wp_stmt_seq [.val (FL (some p0)), .val (FL (some p0))] [.inr 0, .inr 1] [.inl 1, .inr 1] follows S4 rfl (by kernel_rfl) ?_ ?_
  · refine ⟨⟨trivial, ?_⟩, ?_⟩
    · exact mS 2 3
    · exact mO 0 20
  intro B5 a5 W5 (S5 : Sta w 43 [(1, (.box 38 (SF [(Is (.float .f64 x)), (Is (.float .f64 y))]))), (2, (.box 38 (Is (.agg #[.float .f64 0, .float .f64 0]))))] [(5, (FL (some p0))), (4, (FL (some p1)))] _ _ _)
  refine wp_stmt_seq [.val (FL (some p1)), .val (FL (some p1))] [.inr 0, .inr 1] [.inl 1, .inr 0] follows S5 rfl (by kernel_rfl) ?_ ?_
  · refine ⟨⟨trivial, ?_⟩, ?_⟩
    · exact mS 1 4
    · exact mO 0 21
  intro B6 a6 W6 (S6 : Sta w 43 [(1, (.box 38 (SF [(Is (.float .f64 x)), (Is (.float .f64 y))]))), (2, (.box 38 (Is (.agg #[.float .f64 0, .float .f64 0]))))] [(3, (FL (some p1))), (5, (FL (some p0)))] _ _ _)
  refine wp_stmt [.val (FL (some p0)), .val (FL (some p0))] [.inr 0, .inr 1] [.inl 1, .inr 0] follows S6 rfl (by kernel_rfl) ?_ ?_
  · refine ⟨⟨trivial, ?_⟩, ?_⟩
    · exact mS 1 5
    · exact mO 0 22
  intro B7 a7 W7 (S7 : Sta w 43 [(1, (.box 38 (SF [(Is (.float .f64 x)), (Is (.float .f64 y))]))), (2, (.box 38 (Is (.agg #[.float .f64 0, .float .f64 0]))))] [(4, (FL (some p0))), (3, (FL (some p1)))] _ _ _)
  refine thenN ?_
  refine wp_stmt_seq [.val (FL (some p1)), .val (FL (dnP (some p1))), .val (FL (some p0)), .val (FL (upP (some p0))), .val (SF [(FL (dnP (some p1))), (FL (upP (some p0)))]), .new (.box 38 (Is (.agg #[.float .f64 0, .float .f64 0]))), .put (.inr 5) (.box 38 (SF [(FL (dnP (some p1))), (FL (upP (some p0)))]))] [.inr 0, .inr 1, .inl 5] [] follows S7 rfl (by kernel_rfl) ?_ ?_
  · repeat' refine And.intro ?_ ?_
    · trivial
    · exact mS 1 3
    · exact cc1 wA (qO 0 23 rfl) (fresh_fl _) h_rdown
    · exact mS 0 4
    · exact cc1 wA (qO 2 25 rfl) (fresh_fl _) h_rup
    · exact owe_build_iv rfl wA rfl (oO 1 24) (oO 3 26) flt_fl flt_fl rfl
    · exact owe_new rfl wA rfl rfl (fun ρ w => alloc_ival ρ _ w)
    · exact owe_put 5 rfl wA rfl (by kernel_rfl) rfl (oO 4 27) (stores_of strct_ival shp_i0 shp_iv) rfl
  intro B8 a8 W8 (S8 : Sta w 43 [(1, (.box 38 (SF [(Is (.float .f64 x)), (Is (.float .f64 y))]))), (2, (.box 38 (Is (.agg #[.float .f64 0, .float .f64 0])))), (6, (.box 38 (SF [(FL (dnP (some p1))), (FL (upP (some p0)))])))] [] _ _ _)
  refine wp_seq ?_
  refine wp_stmt_seq [.val (Part a8 1 0), .val (Is (.float .f64 x)), kT, kT, .val (Part a8 1 1), .val (Is (.float .f64 y)), kF, kF, kF, .val (Part a8 6 0), .val (FL (dnP (some p1))), kT, kT] [.inr 0, .inr 1, .inr 2] [.inl 12] follows S8 rfl (by kernel_rfl) ?_ ?_
  · repeat' refine And.intro ?_ ?_
    · trivial
    · exact owe_part rfl wA rfl (k := 0) rfl (by kernel_rfl) rfl (fun ρ w b h => part_ival0 ρ _ _ w b 0 h)
    · exact owe_pload rfl wA rfl (oO 0 28) (k := 0) rfl (by kernel_rfl) rfl (fun ρ w b u h1 h2 h3 => ploadI rfl load1_f64 ρ _ _ w b u h1 h2 h3)
    · exact owe_fcmp rfl wA rfl ((oO 1 29).imp (fl_is hx)) ((opnd_const _).imp (fl_is (by decide))) (le0_t hpx ha) rfl
    · exact mO 2 30
    · exact owe_part rfl (wI 3 31) rfl (k := 0) rfl (by kernel_rfl) rfl (fun ρ w b h => part_ival1 ρ _ _ w b 0 h)
    · exact owe_pload rfl (wI 3 31) rfl (oO 4 32) (k := 0) rfl (by kernel_rfl) rfl (fun ρ w b u h1 h2 h3 => ploadI rfl load1_f64 ρ _ _ w b u h1 h2 h3)
    · exact owe_fcmp rfl (wI 3 31) rfl ((oO 5 33).imp (fl_is hy)) ((opnd_const _).imp (fl_is (by decide))) (ge0_f hpy hb) rfl
    · exact pT wA (oO 3 31) (oO 6 34)
    · exact mO 7 35
    · exact owe_part rfl (wI 8 36) rfl (k := 2) rfl (by kernel_rfl) rfl (fun ρ w b h => part_ival0 ρ _ _ w b 0 h)
    · exact owe_pload rfl (wI 8 36) rfl (oO 9 37) (k := 2) rfl (by kernel_rfl) rfl (fun ρ w b u h1 h2 h3 => ploadI rfl load1_f64 ρ _ _ w b u h1 h2 h3)
    · exact owe_fcmp rfl (wI 8 36) rfl (oO 10 38) ((opnd_const _).imp (fl_is (by decide))) (lt_t (p := dnI p1) hd) rfl
    · exact pF wA (oO 8 36) (oO 11 39)
  intro B9 a9 W9 (S9 : Sta w 43 [(1, (.box 38 (SF [(Is (.float .f64 x)), (Is (.float .f64 y))]))), (2, (.box 38 (Is (.agg #[.float .f64 0, .float .f64 0])))), (6, (.box 38 (SF [(FL (dnP (some p1))), (FL (upP (some p0)))])))] [(40, bT)] _ _ _)
  refine wp_cond_true (S9.bool 0 40 rfl) ?_
  refine wp_stmt [.val (Part a9 6 0), .put (.inl 6) (.box 38 (SF [(FL (plc 0)), (FL (upP (some p0)))]))] [.inr 0, .inr 1, .inr 2] [] follows S9 rfl (by kernel_rfl) ?_ ?_
  · refine ⟨⟨trivial, ?_⟩, ?_⟩
    · exact owe_part rfl wA rfl (k := 2) rfl (by kernel_rfl) rfl (fun ρ w b h => part_ival0 ρ _ _ w b 0 h)
    · exact owe_pput (f := 0) rfl wA rfl (oO 0 41) (k := 2) rfl (by kernel_rfl) ((opnd_const _).imp (fl_is (by decide))) flt_fl (Nat.le_of_ble_eq_true rfl) rfl
  intro B10 a10 W10 (S10 : Sta w 43 [(1, (.box 38 (SF [(Is (.float .f64 x)), (Is (.float .f64 y))]))), (2, (.box 38 (Is (.agg #[.float .f64 0, .float .f64 0])))), (6, (.box 38 (SF [(FL (plc 0)), (FL (upP (some p0)))])))] [] _ _ _)
  refine thenN ?_
  refine wp_stmt_seq [.val (SF [(FL (plc 0)), (FL (upP (some p0)))]), .put (.inl 2) (.box 38 (SF [(FL (plc 0)), (FL (upP (some p0)))]))] [.inr 0, .inr 1, .inr 2] [] follows S10 rfl (by kernel_rfl) ?_ ?_
  · refine ⟨⟨trivial, ?_⟩, ?_⟩
    · exact lod 2 wA (loads_of strct_ival shp_iv)
    · exact owe_set rfl wA rfl (k := 1) rfl (by kernel_rfl) (oO 0 42) (stores_of strct_ival shp_i0 shp_iv) rfl
  intro B11 a11 W11 (S11 : Sta w 43 [(1, (.box 38 (SF [(Is (.float .f64 x)), (Is (.float .f64 y))]))), (2, (.box 38 (SF [(FL (plc 0)), (FL (upP (some p0)))]))), (6, (.box 38 (SF [(FL (plc 0)), (FL (upP (some p0)))])))] [] _ _ _)
  refine wp_ret ?_
  exact end_one S11 rfl (res_cell S11 1 2 rfl strct_ival shp_iv)
set_option maxHeartbeats 1000000 in
theorem rsqr_C1 (w : World) (x y : Nat) (hx : x < 18446744073709551616) (hy : y < 18446744073709551616) (px py p0 p1 : Int) (hpx : plc x = some px) (hpy : plc y = some py) (h0 : arP .mul x x = some p0) (h1 : arP .mul y y = some p1) (hs : p1 < p0) (ha : px ≤ 0) (hb : py < 0) (hd : ¬ dnI p1 < 0) :
    Calls Tryz.prog 25 #[(.agg #[.float .f64 x, .float .f64 y])] w (Gives (IVN (dnP (some p1)) (upP (some p0))) w) := by
  refine calls_sta (sl := [(0, (SF [(Is (.float .f64 x)), (Is (.float .f64 y))]))]) Tryz.func25 rfl Tryz.ntmps25 (by simp) (args_cons rfl (ix_has) args_nil) ?_
  intro a0 S0
  refine wp_stmt_seq [.new (.box 38 (SF [(Is (.float .f64 x)), (Is (.float .f64 y))])), .new (.box 38 (Is (.agg #[.float .f64 0, .float .f64 0])))] [.inl 0, .inl 1] [] follows S0 rfl (by kernel_rfl) ?_ ?_
  · refine ⟨⟨trivial, ?_⟩, ?_⟩
    · exact owe_box rfl wA rfl (oS 0 0) rfl (fun ρ w h => box_ival shp_iv ρ _ _ w h)
    · exact owe_new rfl wA rfl rfl (fun ρ w => alloc_ival ρ _ w)
  intro B1 a1 W1 (S1 : Sta w 43 [(1, (.box 38 (SF [(Is (.float .f64 x)), (Is (.float .f64 y))]))), (2, (.box 38 (Is (.agg #[.float .f64 0, .float .f64 0]))))] [] _ _ _)
  refine wp_stmt_seq [.val (Part a1 1 0), .val (Is (.float .f64 x)), .val (Part a1 1 0), .val (Is (.float .f64 x)), .val (FL (some p0)), .val (FL (some p0))] [.inr 0, .inr 1] [.inl 5] follows S1 rfl (by kernel_rfl) ?_ ?_
  · refine ⟨⟨⟨⟨⟨⟨trivial, ?_⟩, ?_⟩, ?_⟩, ?_⟩, ?_⟩, ?_⟩
    · exact owe_part rfl wA rfl (k := 0) rfl (by kernel_rfl) rfl (fun ρ w b h => part_ival0 ρ _ _ w b 0 h)
    · exact owe_pload rfl wA rfl (oO 0 7) (k := 0) rfl (by kernel_rfl) rfl (fun ρ w b u h1 h2 h3 => ploadI rfl load1_f64 ρ _ _ w b u h1 h2 h3)
    · exact owe_part rfl wA rfl (k := 0) rfl (by kernel_rfl) rfl (fun ρ w b h => part_ival0 ρ _ _ w b 0 h)
    · exact owe_pload rfl wA rfl (oO 2 9) (k := 0) rfl (by kernel_rfl) rfl (fun ρ w b u h1 h2 h3 => ploadI rfl load1_f64 ρ _ _ w b u h1 h2 h3)
    · exact owe_farithS (by simp) rfl wA rfl (oO 1 8) (oO 3 10) h0 rfl
    · exact mO 4 11
  intro B2 a2 W2 (S2 : Sta w 43 [(1, (.box 38 (SF [(Is (.float .f64 x)), (Is (.float .f64 y))]))), (2, (.box 38 (Is (.agg #[.float .f64 0, .float .f64 0]))))] [(3, (FL (some p0)))] _ _ _)
  refine wp_stmt_seq [.val (Part a2 1 1), .val (Is (.float .f64 y)), .val (Part a2 1 1), .val (Is (.float .f64 y)), .val (FL (some p1)), .val (FL (some p1))] [.inr 0, .inr 1] [.inl 5, .inr 0] follows S2 rfl (by kernel_rfl) ?_ ?_
  · refine ⟨⟨⟨⟨⟨⟨trivial, ?_⟩, ?_⟩, ?_⟩, ?_⟩, ?_⟩, ?_⟩
    · exact owe_part rfl wA rfl (k := 0) rfl (by kernel_rfl) rfl (fun ρ w b h => part_ival1 ρ _ _ w b 0 h)
    · exact owe_pload rfl wA rfl (oO 0 12) (k := 0) rfl (by kernel_rfl) rfl (fun ρ w b u h1 h2 h3 => ploadI rfl load1_f64 ρ _ _ w b u h1 h2 h3)
    · exact owe_part rfl wA rfl (k := 0) rfl (by kernel_rfl) rfl (fun ρ w b h => part_ival1 ρ _ _ w b 0 h)
    · exact owe_pload rfl wA rfl (oO 2 14) (k := 0) rfl (by kernel_rfl) rfl (fun ρ w b u h1 h2 h3 => ploadI rfl load1_f64 ρ _ _ w b u h1 h2 h3)
    · exact owe_farithS (by simp) rfl wA rfl (oO 1 13) (oO 3 15) h1 rfl
    · exact mO 4 16
  intro B3 a3 W3 (S3 : Sta w 43 [(1, (.box 38 (SF [(Is (.float .f64 x)), (Is (.float .f64 y))]))), (2, (.box 38 (Is (.agg #[.float .f64 0, .float .f64 0]))))] [(4, (FL (some p1))), (3, (FL (some p0)))] _ _ _)
  refine wp_seq ?_
  refine wp_stmt_seq [.val (FL (some p0)), .val (FL (some p1)), kT] [.inr 0, .inr 1] [.inl 2, .inr 0, .inr 1] follows S3 rfl (by kernel_rfl) ?_ ?_
  · refine ⟨⟨⟨trivial, ?_⟩, ?_⟩, ?_⟩
    · exact mS 1 3
    · exact mS 0 4
    · exact owe_fcmp rfl wA rfl (oO 0 17) (oO 1 18) (gt_t hs) rfl
  intro B4 a4 W4 (S4 : Sta w 43 [(1, (.box 38 (SF [(Is (.float .f64 x)), (Is (.float .f64 y))]))), (2, (.box 38 (Is (.agg #[.float .f64 0, .float .f64 0]))))] [(19, bT), (4, (FL (some p1))), (3, (FL (some p0)))] _ _ _)
  refine wp_cond_true (S4.bool 0 19 rfl) ?_
  refine wp_stmt_seq [.val (FL (some p0)), .val (FL (some p0))] [.inr 0, .inr 1] [.inl 1, .inr 1] follows S4 rfl (by kernel_rfl) ?_ ?_
  · refine ⟨⟨trivial, ?_⟩, ?_⟩
    · exact mS 2 3
    · exact mO 0 20
  intro B5 a5 W5 (S5 : Sta w 43 [(1, (.box 38 (SF [(Is (.float .f64 x)), (Is (.float .f64 y))]))), (2, (.box 38 (Is (.agg #[.float .f64 0, .float .f64 0]))))] [(5, (FL (some p0))), (4, (FL (some p1)))] _ _ _)
  refine wp_stmt_seq [.val (FL (some p1)), .val (FL (some p1))] [.inr 0, .inr 1] [.inl 1, .inr 0] follows S5 rfl (by kernel_rfl) ?_ ?_
  · refine ⟨⟨trivial, ?_⟩, ?_⟩
    · exact mS 1 4
    · exact mO 0 21
  intro B6 a6 W6 (S6 : Sta w 43 [(1, (.box 38 (SF [(Is (.float .f64 x)), (Is (.float .f64 y))]))), (2, (.box 38 (Is (.agg #[.float .f64 0, .float .f64 0]))))] [(3, (FL (some p1))), (5, (FL (some p0)))] _ _ _)
  refine wp_stmt [.val (FL (some p0)), .val (FL (some p0))] [.inr 0, .inr 1] [.inl 1, .inr 0] follows S6 rfl (by kernel_rfl) ?_ ?_
  · refine ⟨⟨trivial, ?_⟩, ?_⟩
    · exact mS 1 5
    · exact mO 0 22
  intro B7 a7 W7 (S7 : Sta w 43 [(1, (.box 38 (SF [(Is (.float .f64 x)), (Is (.float .f64 y))]))), (2, (.box 38 (Is (.agg #[.float .f64 0, .float .f64 0]))))] [(4, (FL (some p0))), (3, (FL (some p1)))] _ _ _)
  refine thenN ?_
  refine wp_stmt_seq [.val (FL (some p1)), .val (FL (dnP (some p1))), .val (FL (some p0)), .val (FL (upP (some p0))), .val (SF [(FL (dnP (some p1))), (FL (upP (some p0)))]), .new (.box 38 (Is (.agg #[.float .f64 0, .float .f64 0]))), .put (.inr 5) (.box 38 (SF [(FL (dnP (some p1))), (FL (upP (some p0)))]))] [.inr 0, .inr 1, .inl 5] [] follows S7 rfl (by kernel_rfl) ?_ ?_
  · repeat' refine And.intro ?_ ?_
    · trivial
    · exact mS 1 3
    · exact cc1 wA (qO 0 23 rfl) (fresh_fl _) h_rdown
    · exact mS 0 4
    · exact cc1 wA (qO 2 25 rfl) (fresh_fl _) h_rup
    · exact owe_build_iv rfl wA rfl (oO 1 24) (oO 3 26) flt_fl flt_fl rfl
    · exact owe_new rfl wA rfl rfl (fun ρ w => alloc_ival ρ _ w)
    · exact owe_put 5 rfl wA rfl (by kernel_rfl) rfl (oO 4 27) (stores_of strct_ival shp_i0 shp_iv) rfl
  intro B8 a8 W8 (S8 : Sta w 43 [(1, (.box 38 (SF [(Is (.float .f64 x)), (Is (.float .f64 y))]))), (2, (.box 38 (Is (.agg #[.float .f64 0, .float .f64 0])))), (6, (.box 38 (SF [(FL (dnP (some p1))), (FL (upP (some p0)))])))] [] _ _ _)
  refine wp_seq ?_
  refine wp_stmt_seq [.val (Part a8 1 0), .val (Is (.float .f64 x)), kT, kT, .val (Part a8 1 1), .val (Is (.float .f64 y)), kF, kF, kF, .val (Part a8 6 0), .val (FL (dnP (some p1))), kF, kF] [.inr 0, .inr 1, .inr 2] [.inl 12] follows S8 rfl (by kernel_rfl) ?_ ?_
  · repeat' refine And.intro ?_ ?_
    · trivial
    · exact owe_part rfl wA rfl (k := 0) rfl (by kernel_rfl) rfl (fun ρ w b h => part_ival0 ρ _ _ w b 0 h)
    · exact owe_pload rfl wA rfl (oO 0 28) (k := 0) rfl (by kernel_rfl) rfl (fun ρ w b u h1 h2 h3 => ploadI rfl load1_f64 ρ _ _ w b u h1 h2 h3)
    · exact owe_fcmp rfl wA rfl ((oO 1 29).imp (fl_is hx)) ((opnd_const _).imp (fl_is (by decide))) (le0_t hpx ha) rfl
    · exact mO 2 30
    · exact owe_part rfl (wI 3 31) rfl (k := 0) rfl (by kernel_rfl) rfl (fun ρ w b h => part_ival1 ρ _ _ w b 0 h)
    · exact owe_pload rfl (wI 3 31) rfl (oO 4 32) (k := 0) rfl (by kernel_rfl) rfl (fun ρ w b u h1 h2 h3 => ploadI rfl load1_f64 ρ _ _ w b u h1 h2 h3)
    · exact owe_fcmp rfl (wI 3 31) rfl ((oO 5 33).imp (fl_is hy)) ((opnd_const _).imp (fl_is (by decide))) (ge0_f hpy hb) rfl
    · exact pT wA (oO 3 31) (oO 6 34)
    · exact mO 7 35
    · exact owe_part rfl (wI 8 36) rfl (k := 2) rfl (by kernel_rfl) rfl (fun ρ w b h => part_ival0 ρ _ _ w b 0 h)
    · exact owe_pload rfl (wI 8 36) rfl (oO 9 37) (k := 2) rfl (by kernel_rfl) rfl (fun ρ w b u h1 h2 h3 => ploadI rfl load1_f64 ρ _ _ w b u h1 h2 h3)
    · exact owe_fcmp rfl (wI 8 36) rfl (oO 10 38) ((opnd_const _).imp (fl_is (by decide))) (lt_f (p := dnI p1) hd) rfl
    · exact pF wA (oO 8 36) (oO 11 39)
  intro B9 a9 W9 (S9 : Sta w 43 [(1, (.box 38 (SF [(Is (.float .f64 x)), (Is (.float .f64 y))]))), (2, (.box 38 (Is (.agg #[.float .f64 0, .float .f64 0])))), (6, (.box 38 (SF [(FL (dnP (some p1))), (FL (upP (some p0)))])))] [(40, bF)] _ _ _)
  refine wp_cond_false (S9.bool 0 40 rfl) ?_
  refine wp_skip ?_
  refine thenN ?_
  refine wp_stmt_seq [.val (SF [(FL (dnP (some p1))), (FL (upP (some p0)))]), .put (.inl 2) (.box 38 (SF [(FL (dnP (some p1))), (FL (upP (some p0)))]))] [.inr 0, .inr 1, .inr 2] [] follows S9 rfl (by kernel_rfl) ?_ ?_
  · refine ⟨⟨trivial, ?_⟩, ?_⟩
    · exact lod 2 wA (loads_of strct_ival shp_iv)
    · exact owe_set rfl wA rfl (k := 1) rfl (by kernel_rfl) (oO 0 42) (stores_of strct_ival shp_i0 shp_iv) rfl
  intro B10 a10 W10 (S10 : Sta w 43 [(1, (.box 38 (SF [(Is (.float .f64 x)), (Is (.float .f64 y))]))), (2, (.box 38 (SF [(FL (dnP (some p1))), (FL (upP (some p0)))]))), (6, (.box 38 (SF [(FL (dnP (some p1))), (FL (upP (some p0)))])))] [] _ _ _)
  refine wp_ret ?_
  exact end_one S10 rfl (res_cell S10 1 2 rfl strct_ival shp_iv)
set_option maxHeartbeats 1000000 in
theorem rsqr_D1 (w : World) (x y : Nat) (hx : x < 18446744073709551616) (hy : y < 18446744073709551616) (px py p0 p1 : Int) (hpx : plc x = some px) (hpy : plc y = some py) (h0 : arP .mul x x = some p0) (h1 : arP .mul y y = some p1) (hs : p1 < p0) (ha : 0 < px) (hd : dnI p1 < 0) :
    Calls Tryz.prog 25 #[(.agg #[.float .f64 x, .float .f64 y])] w (Gives (IVN (plc 0) (upP (some p0))) w) := by
  refine calls_sta (sl := [(0, (SF [(Is (.float .f64 x)), (Is (.float .f64 y))]))]) Tryz.func25 rfl Tryz.ntmps25 (by simp) (args_cons rfl (ix_has) args_nil) ?_
  intro a0 S0
  refine wp_stmt_seq [.new (.box 38 (SF [(Is (.float .f64 x)), (Is (.float .f64 y))])), .new (.box 38 (Is (.agg #[.float .f64 0, .float .f64 0])))] [.inl 0, .inl 1] [] follows S0 rfl (by kernel_rfl) ?_ ?_
  · refine ⟨⟨trivial, ?_⟩, ?_⟩
    · exact owe_box rfl wA rfl (oS 0 0) rfl (fun ρ w h => box_ival shp_iv ρ _ _ w h)
    · exact owe_new rfl wA rfl rfl (fun ρ w => alloc_ival ρ _ w)
  intro B1 a1 W1 (S1 : Sta w 43 [(1, (.box 38 (SF [(Is (.float .f64 x)), (Is (.float .f64 y))]))), (2, (.box 38 (Is (.agg #[.float .f64 0, .float .f64 0]))))] [] _ _ _)
  refine wp_stmt_seq [.val (Part a1 1 0), .val (Is (.float .f64 x)), .val (Part a1 1 0), .val (Is (.float .f64 x)), .val (FL (some p0)), .val (FL (some p0))] [.inr 0, .inr 1] [.inl 5] follows S1 rfl (by kernel_rfl) ?_ ?_
  · refine ⟨⟨⟨⟨⟨⟨trivial, ?_⟩, ?_⟩, ?_⟩, ?_⟩, ?_⟩, ?_⟩
    · exact owe_part rfl wA rfl (k := 0) rfl (by kernel_rfl) rfl (fun ρ w b h => part_ival0 ρ _ _ w b 0 h)
    · exact owe_pload rfl wA rfl (oO 0 7) (k := 0) rfl (by kernel_rfl) rfl (fun ρ w b u h1 h2 h3 => ploadI rfl load1_f64 ρ _ _ w b u h1 h2 h3)
    · exact owe_part rfl wA rfl (k := 0) rfl (by kernel_rfl) rfl (fun ρ w b h => part_ival0 ρ _ _ w b 0 h)
    · exact owe_pload rfl wA rfl (oO 2 9) (k := 0) rfl (by kernel_rfl) rfl (fun ρ w b u h1 h2 h3 => ploadI rfl load1_f64 ρ _ _ w b u h1 h2 h3)
    · exact owe_farithS (by simp) rfl wA rfl (oO 1 8) (oO 3 10) h0 rfl
    · exact mO 4 11
  intro B2 a2 W2 (S2 : Sta w 43 [(1, (.box 38 (SF [(Is (.float .f64 x)), (Is (.float .f64 y))]))), (2, (.box 38 (Is (.agg #[.float .f64 0, .float .f64 0]))))] [(3, (FL (some p0)))] _ _ _)
  refine wp_stmt_seq [.val (Part a2 1 1), .val (Is (.float .f64 y)), .val (Part a2 1 1), .val (Is (.float .f64 y)), .val (FL (some p1)), .val (FL (some p1))] [.inr 0, .inr 1] [.inl 5, .inr 0] follows S2 rfl (by kernel_rfl) ?_ ?_
  · refine ⟨⟨⟨⟨⟨⟨trivial, ?_⟩, ?_⟩, ?_⟩, ?_⟩, ?_⟩, ?_⟩
    · exact owe_part rfl wA rfl (k := 0) rfl (by kernel_rfl) rfl (fun ρ w b h => part_ival1 ρ _ _ w b 0 h)
    · exact owe_pload rfl wA rfl (oO 0 12) (k := 0) rfl (by kernel_rfl) rfl (fun ρ w b u h1 h2 h3 => ploadI rfl load1_f64 ρ _ _ w b u h1 h2 h3)
    · exact owe_part rfl wA rfl (k := 0) rfl (by kernel_rfl) rfl (fun ρ w b h => part_ival1 ρ _ _ w b 0 h)
    · exact owe_pload rfl wA rfl (oO 2 14) (k := 0) rfl (by kernel_rfl) rfl (fun ρ w b u h1 h2 h3 => ploadI rfl load1_f64 ρ _ _ w b u h1 h2 h3)
    · exact owe_farithS (by simp) rfl wA rfl (oO 1 13) (oO 3 15) h1 rfl
    · exact mO 4 16
  intro B3 a3 W3 (S3 : Sta w 43 [(1, (.box 38 (SF [(Is (.float .f64 x)), (Is (.float .f64 y))]))), (2, (.box 38 (Is (.agg #[.float .f64 0, .float .f64 0]))))] [(4, (FL (some p1))), (3, (FL (some p0)))] _ _ _)
  refine wp_seq ?_
  refine wp_stmt_seq [.val (FL (some p0)), .val (FL (some p1)), kT] [.inr 0, .inr 1] [.inl 2, .inr 0, .inr 1] follows S3 rfl (by kernel_rfl) ?_ ?_
  · refine ⟨⟨⟨trivial, ?_⟩, ?_⟩, ?_⟩
    · exact mS 1 3
    · exact mS 0 4
    · exact owe_fcmp rfl wA rfl (oO 0 17) (oO 1 18) (gt_t hs) rfl
  intro B4 a4 W4 (S4 : Sta w 43 [(1, (.box 38 (SF [(Is (.float .f64 x)), (Is (.float .f64 y))]))), (2, (.box 38 (Is (.agg #[.float .f64 0, .float .f64 0]))))] [(19, bT), (4, (FL (some p1))), (3, (FL (some p0)))] _ _ _)
  refine wp_cond_true (S4.bool 0 19 rfl) ?_
  refine wp_stmt_seq [.val (FL (some p0)), .val (FL (some p0))] [.inr 0, .inr 1] [.inl 1, .inr 1] follows S4 rfl (by kernel_rfl) ?_ ?_
  · refine ⟨⟨trivial, ?_⟩, ?_⟩
    · exact mS 2 3
    · exact mO 0 20
  intro B5 a5 W5 (S5 : Sta w 43 [(1, (.box 38 (SF [(Is (.float .f64 x)), (Is (.float .f64 y))]))), (2, (.box 38 (Is (.agg #[.float .f64 0, .float .f64 0]))))] [(5, (FL (some p0))), (4, (FL (some p1)))] _ _ _)
  refine wp_stmt_seq [.val (FL (some p1)), .val (FL (some p1))] [.inr 0, .inr 1] [.inl 1, .inr 0] follows S5 rfl (by kernel_rfl) ?_ ?_
  · refine ⟨⟨trivial, ?_⟩, ?_⟩
    · exact mS 1 4
    · exact mO 0 21
  intro B6 a6 W6 (S6 : Sta w 43 [(1, (.box 38 (SF [(Is (.float .f64 x)), (Is (.float .f64 y))]))), (2, (.box 38 (Is (.agg #[.float .f64 0, .float .f64 0]))))] [(3, (FL (some p1))), (5, (FL (some p0)))] _ _ _)
  refine wp_stmt [.val (FL (some p0)), .val (FL (some p0))] [.inr 0, .inr 1] [.inl 1, .inr 0] follows S6 rfl (by kernel_rfl) ?_ ?_
  · refine ⟨⟨trivial, ?_⟩, ?_⟩
    · exact mS 1 5
    · exact mO 0 22
  intro B7 a7 W7 (S7 : Sta w 43 [(1, (.box 38 (SF [(Is (.float .f64 x)), (Is (.float .f64 y))]))), (2, (.box 38 (Is (.agg #[.float .f64 0, .float .f64 0]))))] [(4, (FL (some p0))), (3, (FL (some p1)))] _ _ _)
  refine thenN ?_
  refine wp_stmt_seq [.val (FL (some p1)), .val (FL (dnP (some p1))), .val (FL (some p0)), .val (FL (upP (some p0))), .val (SF [(FL (dnP (some p1))), (FL (upP (some p0)))]), .new (.box 38 (Is (.agg #[.float .f64 0, .float .f64 0]))), .put (.inr 5) (.box 38 (SF [(FL (dnP (some p1))), (FL (upP (some p0)))]))] [.inr 0, .inr 1, .inl 5] [] follows S7 rfl (by kernel_rfl) ?_ ?_
  · repeat' refine And.intro ?_ ?_
    · trivial
    · exact mS 1 3
    · exact cc1 wA (qO 0 23 rfl) (fresh_fl _) h_rdown
    · exact mS 0 4
    · exact cc1 wA (qO 2 25 rfl) (fresh_fl _) h_rup
    · exact owe_build_iv rfl wA rfl (oO 1 24) (oO 3 26) flt_fl flt_fl rfl
    · exact owe_new rfl wA rfl rfl (fun ρ w => alloc_ival ρ _ w)
    · exact owe_put 5 rfl wA rfl (by kernel_rfl) rfl (oO 4 27) (stores_of strct_ival shp_i0 shp_iv) rfl
  intro B8 a8 W8 (S8 : Sta w 43 [(1, (.box 38 (SF [(Is (.float .f64 x)), (Is (.float .f64 y))]))), (2, (.box 38 (Is (.agg #[.float .f64 0, .float .f64 0])))), (6, (.box 38 (SF [(FL (dnP (some p1))), (FL (upP (some p0)))])))] [] _ _ _)
  refine wp_seq ?_
  refine wp_stmt_seq [.val (Part a8 1 0), .val (Is (.float .f64 x)), kF, kF, .off, .off, .off, kF, kF, .val (Part a8 6 0), .val (FL (dnP (some p1))), kT, kT] [.inr 0, .inr 1, .inr 2] [.inl 12] follows S8 rfl (by kernel_rfl) ?_ ?_
  · repeat' refine And.intro ?_ ?_
    · trivial
    · exact owe_part rfl wA rfl (k := 0) rfl (by kernel_rfl) rfl (fun ρ w b h => part_ival0 ρ _ _ w b 0 h)
    · exact owe_pload rfl wA rfl (oO 0 28) (k := 0) rfl (by kernel_rfl) rfl (fun ρ w b u h1 h2 h3 => ploadI rfl load1_f64 ρ _ _ w b u h1 h2 h3)
    · exact owe_fcmp rfl wA rfl ((oO 1 29).imp (fl_is hx)) ((opnd_const _).imp (fl_is (by decide))) (le0_f hpx ha) rfl
    · exact mO 2 30
    · exact oF 3 31
    · exact oF 3 31
    · exact oF 3 31
    · exact pF wA (oO 3 31) (opnd_const _)
    · exact mO 7 35
    · exact owe_part rfl (wI 8 36) rfl (k := 2) rfl (by kernel_rfl) rfl (fun ρ w b h => part_ival0 ρ _ _ w b 0 h)
    · exact owe_pload rfl (wI 8 36) rfl (oO 9 37) (k := 2) rfl (by kernel_rfl) rfl (fun ρ w b u h1 h2 h3 => ploadI rfl load1_f64 ρ _ _ w b u h1 h2 h3)
    · exact owe_fcmp rfl (wI 8 36) rfl (oO 10 38) ((opnd_const _).imp (fl_is (by decide))) (lt_t (p := dnI p1) hd) rfl
    · exact pF wA (oO 8 36) (oO 11 39)
  intro B9 a9 W9 (S9 : Sta w 43 [(1, (.box 38 (SF [(Is (.float .f64 x)), (Is (.float .f64 y))]))), (2, (.box 38 (Is (.agg #[.float .f64 0, .float .f64 0])))), (6, (.box 38 (SF [(FL (dnP (some p1))), (FL (upP (some p0)))])))] [(40, bT)] _ _ _)
  refine wp_cond_true (S9.bool 0 40 rfl) ?_
  refine wp_stmt [.val (Part a9 6 0), .put (.inl 6) (.box 38 (SF [(FL (plc 0)), (FL (upP (some p0)))]))] [.inr 0, .inr 1, .inr 2] [] follows S9 rfl (by kernel_rfl) ?_ ?_
  · refine ⟨⟨trivial, ?_⟩, ?_⟩
    · exact owe_part rfl wA rfl (k := 2) rfl (by kernel_rfl) rfl (fun ρ w b h => part_ival0 ρ _ _ w b 0 h)
    · exact owe_pput (f := 0) rfl wA rfl (oO 0 41) (k := 2) rfl (by kernel_rfl) ((opnd_const _).imp (fl_is (by decide))) flt_fl (Nat.le_of_ble_eq_true rfl) rfl
  intro B10 a10 W10 (S10 : Sta w 43 [(1, (.box 38 (SF [(Is (.float .f64 x)), (Is (.float .f64 y))]))), (2, (.box 38 (Is (.agg #[.float .f64 0, .float .f64 0])))), (6, (.box 38 (SF [(FL (plc 0)), (FL (upP (some p0)))])))] [] _ _ _)
  refine thenN ?_
  refine wp_stmt_seq [.val (SF [(FL (plc 0)), (FL (upP (some p0)))]), .put (.inl 2) (.box 38 (SF [(FL (plc 0)), (FL (upP (some p0)))]))] [.inr 0, .inr 1, .inr 2] [] follows S10 rfl (by kernel_rfl) ?_ ?_
  · refine ⟨⟨trivial, ?_⟩, ?_⟩
    · exact lod 2 wA (loads_of strct_ival shp_iv)
    · exact owe_set rfl wA rfl (k := 1) rfl (by kernel_rfl) (oO 0 42) (stores_of strct_ival shp_i0 shp_iv) rfl
  intro B11 a11 W11 (S11 : Sta w 43 [(1, (.box 38 (SF [(Is (.float .f64 x)), (Is (.float .f64 y))]))), (2, (.box 38 (SF [(FL (plc 0)), (FL (upP (some p0)))]))), (6, (.box 38 (SF [(FL (plc 0)), (FL (upP (some p0)))])))] [] _ _ _)
  refine wp_ret ?_
  exact end_one S11 rfl (res_cell S11 1 2 rfl strct_ival shp_iv)
set_option maxHeartbeats 1000000 in
theorem rsqr_E1 (w : World) (x y : Nat) (hx : x < 18446744073709551616) (hy : y < 18446744073709551616) (px py p0 p1 : Int) (hpx : plc x = some px) (hpy : plc y = some py) (h0 : arP .mul x x = some p0) (h1 : arP .mul y y = some p1) (hs : p1 < p0) (ha : 0 < px) (hd : ¬ dnI p1 < 0) :
    Calls Tryz.prog 25 #[(.agg #[.float .f64 x, .float .f64 y])] w (Gives (IVN (dnP (some p1)) (upP (some p0))) w) := by
  refine calls_sta (sl := [(0, (SF [(Is (.float .f64 x)), (Is (.float .f64 y))]))]) Tryz.func25 rfl Tryz.ntmps25 (by simp) (args_cons rfl (ix_has) args_nil) ?_
  intro a0 S0
  refine wp_stmt_seq [.new (.box 38 (SF [(Is (.float .f64 x)), (Is (.float .f64 y))])), .new (.box 38 (Is (.agg #[.float .f64 0, .float .f64 0])))] [.inl 0, .inl 1] [] follows S0 rfl (by kernel_rfl) ?_ ?_
  · refine ⟨⟨trivial, ?_⟩, ?_⟩
    · exact owe_box rfl wA rfl (oS 0 0) rfl (fun ρ w h => box_ival shp_iv ρ _ _ w h)
    · exact owe_new rfl wA rfl rfl (fun ρ w => alloc_ival ρ _ w)
  intro B1 a1 W1 (S1 : Sta w 43 [(1, (.box 38 (SF [(Is (.float .f64 x)), (Is (.float .f64 y))]))), (2, (.box 38 (Is (.agg #[.float .f64 0, .float .f64 0]))))] [] _ _ _)
  refine wp_stmt_seq [.val (Part a1 1 0), .val (Is (.float .f64 x)), .val (Part a1 1 0), .val (Is (.float .f64 x)), .val (FL (some p0)), .val (FL (some p0))] [.inr 0, .inr 1] [.inl 5] follows S1 rfl (by kernel_rfl) ?_ ?_
  · refine ⟨⟨⟨⟨⟨⟨trivial, ?_⟩, ?_⟩, ?_⟩, ?_⟩, ?_⟩, ?_⟩
    · exact owe_part rfl wA rfl (k := 0) rfl (by kernel_rfl) rfl (fun ρ w b h => part_ival0 ρ _ _ w b 0 h)
    · exact owe_pload rfl wA rfl (oO 0 7) (k := 0) rfl (by kernel_rfl) rfl (fun ρ w b u h1 h2 h3 => ploadI rfl load1_f64 ρ _ _ w b u h1 h2 h3)
    · exact owe_part rfl wA rfl (k := 0) rfl (by kernel_rfl) rfl (fun ρ w b h => part_ival0 ρ _ _ w b 0 h)
    · exact owe_pload rfl wA rfl (oO 2 9) (k := 0) rfl (by kernel_rfl) rfl (fun ρ w b u h1 h2 h3 => ploadI rfl load1_f64 ρ _ _ w b u h1 h2 h3)
    · exact owe_farithS (by simp) rfl wA rfl (oO 1 8) (oO 3 10) h0 rfl
    · exact mO 4 11
  intro B2 a2 W2 (S2 : Sta w 43 [(1, (.box 38 (SF [(Is (.float .f64 x)), (Is (.float .f64 y))]))), (2, (.box 38 (Is (.agg #[.float .f64 0, .float .f64 0]))))] [(3, (FL (some p0)))] _ _ _)
  refine wp_stmt_seq [.val (Part a2 1 1), .val (Is (.float .f64 y)), .val (Part a2 1 1), .val (Is (.float .f64 y)), .val (FL (some p1)), .val (FL (some p1))] [.inr 0, .inr 1] [.inl 5, .inr 0] follows S2 rfl (by kernel_rfl) ?_ ?_
  · refine ⟨⟨⟨⟨⟨⟨trivial, ?_⟩, ?_⟩, ?_⟩, ?_⟩, ?_⟩, ?_⟩
    · exact owe_part rfl wA rfl (k := 0) rfl (by kernel_rfl) rfl (fun ρ w b h => part_ival1 ρ _ _ w b 0 h)
    · exact owe_pload rfl wA rfl (oO 0 12) (k := 0) rfl (by kernel_rfl) rfl (fun ρ w b u h1 h2 h3 => ploadI rfl load1_f64 ρ _ _ w b u h1 h2 h3)
    · exact owe_part rfl wA rfl (k := 0) rfl (by kernel_rfl) rfl (fun ρ w b h => part_ival1 ρ _ _ w b 0 h)
    · exact owe_pload rfl wA rfl (oO 2 14) (k := 0) rfl (by kernel_rfl) rfl (fun ρ w b u h1 h2 h3 => ploadI rfl load1_f64 ρ _ _ w b u h1 h2 h3)
    · exact owe_farithS (by simp) rfl wA rfl (oO 1 13) (oO 3 15) h1 rfl
    · exact mO 4 16
  intro B3 a3 W3 (S3 : Sta w 43 [(1, (.box 38 (SF [(Is (.float .f64 x)), (Is (.float .f64 y))]))), (2, (.box 38 (Is (.agg #[.float .f64 0, .float .f64 0]))))] [(4, (FL (some p1))), (3, (FL (some p0)))] _ _ _)
  refine wp_seq ?_
  refine wp_stmt_seq [.val (FL (some p0)), .val (FL (some p1)), kT] [.inr 0, .inr 1] [.inl 2, .inr 0, .inr 1] follows S3 rfl (by kernel_rfl) ?_ ?_
  · refine ⟨⟨⟨trivial, ?_⟩, ?_⟩, ?_⟩
    · exact mS 1 3
    · exact mS 0 4
    · exact owe_fcmp rfl wA rfl (oO 0 17) (oO 1 18) (gt_t hs) rfl
  intro B4 a4 W4 (S4 : Sta w 43 [(1, (.box 38 (SF [(Is (.float .f64 x)), (Is (.float .f64 y))]))), (2, (.box 38 (Is (.agg #[.float .f64 0, .float .f64 0]))))] [(19, bT), (4, (FL (some p1))), (3, (FL (some p0)))] _ _ _)
  refine wp_cond_true (S4.bool 0 19 rfl) ?_
  refine wp_stmt_seq [.val (FL (some p0)), .val (FL (some p0))] [.inr 0, .inr 1] [.inl 1, .inr 1] follows S4 rfl (by kernel_rfl) ?_ ?_
  · refine ⟨⟨trivial, ?_⟩, ?_⟩
    · exact mS 2 3
    · exact mO 0 20
  intro B5 a5 W5 (S5 : Sta w 43 [(1, (.box 38 (SF [(Is (.float .f64 x)), (Is (.float .f64 y))]))), (2, (.box 38 (Is (.agg #[.float .f64 0, .float .f64 0]))))] [(5, (FL (some p0))), (4, (FL (some p1)))] _ _ _)
  refine wp_stmt_seq [.val (FL (some p1)), .val (FL (some p1))] [.inr 0, .inr 1] [.inl 1, .inr 0] follows S5 rfl (by kernel_rfl) ?_ ?_
  · refine ⟨⟨trivial, ?_⟩, ?_⟩
    · exact mS 1 4
    · exact mO 0 21
  intro B6 a6 W6 (S6 : Sta w 43 [(1, (.box 38 (SF [(Is (.float .f64 x)), (Is (.float .f64 y))]))), (2, (.box 38 (Is (.agg #[.float .f64 0, .float .f64 0]))))] [(3, (FL (some p1))), (5, (FL (some p0)))] _ _ _)
  refine wp_stmt [.val (FL (some p0)), .val (FL (some p0))] [.inr 0, .inr 1] [.inl 1, .inr 0] follows S6 rfl (by kernel_rfl) ?_ ?_
  · refine ⟨⟨trivial, ?_⟩, ?_⟩
    · exact mS 1 5
    · exact mO 0 22
  intro B7 a7 W7 (S7 : Sta w 43 [(1, (.box 38 (SF [(Is (.float .f64 x)), (Is (.float .f64 y))]))), (2, (.box 38 (Is (.agg #[.float .f64 0, .float .f64 0]))))] [(4, (FL (some p0))), (3, (FL (some p1)))] _ _ _)
  refine thenN ?_
  refine wp_stmt_seq [.val (FL (some p1)), .val (FL (dnP (some p1))), .val (FL (some p0)), .val (FL (upP (some p0))), .val (SF [(FL (dnP (some p1))), (FL (upP (some p0)))]), .new (.box 38 (Is (.agg #[.float .f64 0, .float .f64 0]))), .put (.inr 5) (.box 38 (SF [(FL (dnP (some p1))), (FL (upP (some p0)))]))] [.inr 0, .inr 1, .inl 5] [] follows S7 rfl (by kernel_rfl) ?_ ?_
  · repeat' refine And.intro ?_ ?_
    · trivial
    · exact mS 1 3
    · exact cc1 wA (qO 0 23 rfl) (fresh_fl _) h_rdown
    · exact mS 0 4
    · exact cc1 wA (qO 2 25 rfl) (fresh_fl _) h_rup
    · exact owe_build_iv rfl wA rfl (oO 1 24) (oO 3 26) flt_fl flt_fl rfl
    · exact owe_new rfl wA rfl rfl (fun ρ w => alloc_ival ρ _ w)
    · exact owe_put 5 rfl wA rfl (by kernel_rfl) rfl (oO 4 27) (stores_of strct_ival shp_i0 shp_iv) rfl
  intro B8 a8 W8 (S8 : Sta w 43 [(1, (.box 38 (SF [(Is (.float .f64 x)), (Is (.float .f64 y))]))), (2, (.box 38 (Is (.agg #[.float .f64 0, .float .f64 0])))), (6, (.box 38 (SF [(FL (dnP (some p1))), (FL (upP (some p0)))])))] [] _ _ _)
  refine wp_seq ?_
  refine wp_stmt_seq [.val (Part a8 1 0), .val (Is (.float .f64 x)), kF, kF, .off, .off, .off, kF, kF, .val (Part a8 6 0), .val (FL (dnP (some p1))), kF, kF] [.inr 0, .inr 1, .inr 2] [.inl 12] follows S8 rfl (by kernel_rfl) ?_ ?_
  · repeat' refine And.intro ?_ ?_
    · trivial
    · exact owe_part rfl wA rfl (k := 0) rfl (by kernel_rfl) rfl (fun ρ w b h => part_ival0 ρ _ _ w b 0 h)
    · exact owe_pload rfl wA rfl (oO 0 28) (k := 0) rfl (by kernel_rfl) rfl (fun ρ w b u h1 h2 h3 => ploadI rfl load1_f64 ρ _ _ w b u h1 h2 h3)
    · exact owe_fcmp rfl wA rfl ((oO 1 29).imp (fl_is hx)) ((opnd_const _).imp (fl_is (by decide))) (le0_f hpx ha) rfl
    · exact mO 2 30
    · exact oF 3 31
    · exact oF 3 31
    · exact oF 3 31
    · exact pF wA (oO 3 31) (opnd_const _)
    · exact mO 7 35
    · exact owe_part rfl (wI 8 36) rfl (k := 2) rfl (by kernel_rfl) rfl (fun ρ w b h => part_ival0 ρ _ _ w b 0 h)
    · exact owe_pload rfl (wI 8 36) rfl (oO 9 37) (k := 2) rfl (by kernel_rfl) rfl (fun ρ w b u h1 h2 h3 => ploadI rfl load1_f64 ρ _ _ w b u h1 h2 h3)
    · exact owe_fcmp rfl (wI 8 36) rfl (oO 10 38) ((opnd_const _).imp (fl_is (by decide))) (lt_f (p := dnI p1) hd) rfl
    · exact pF wA (oO 8 36) (oO 11 39)
  intro B9 a9 W9 (S9 : Sta w 43 [(1, (.box 38 (SF [(Is (.float .f64 x)), (Is (.float .f64 y))]))), (2, (.box 38 (Is (.agg #[.float .f64 0, .float .f64 0])))), (6, (.box 38 (SF [(FL (dnP (some p1))), (FL (upP (some p0)))])))] [(40, bF)] _ _ _)
  refine wp_cond_false (S9.bool 0 40 rfl) ?_
  refine wp_skip ?_
  refine thenN ?_
  refine wp_stmt_seq [.val (SF [(FL (dnP (some p1))), (FL (upP (some p0)))]), .put (.inl 2) (.box 38 (SF [(FL (dnP (some p1))), (FL (upP (some p0)))]))] [.inr 0, .inr 1, .inr 2] [] follows S9 rfl (by kernel_rfl) ?_ ?_
  · refine ⟨⟨trivial, ?_⟩, ?_⟩
    · exact lod 2 wA (loads_of strct_ival shp_iv)
    · exact owe_set rfl wA rfl (k := 1) rfl (by kernel_rfl) (oO 0 42) (stores_of strct_ival shp_i0 shp_iv) rfl
  intro B10 a10 W10 (S10 : Sta w 43 [(1, (.box 38 (SF [(Is (.float .f64 x)), (Is (.float .f64 y))]))), (2, (.box 38 (SF [(FL (dnP (some p1))), (FL (upP (some p0)))]))), (6, (.box 38 (SF [(FL (dnP (some p1))), (FL (upP (some p0)))])))] [] _ _ _)
  refine wp_ret ?_
  exact end_one S10 rfl (res_cell S10 1 2 rfl strct_ival shp_iv)

/-- The lower end of a square. -/
def sqL (px py p0 p1 : Int) : Option Int := if dnI (mnP (q2 p0 p1) 1) < 0 ∨ (px ≤ 0 ∧ 0 ≤ py) then some 0 else some (dnI (mnP (q2 p0 p1) 1))
def sqH (p0 p1 : Int) : Option Int := upP (some (mxP (q2 p0 p1) 1))
theorem sqr_w (w : World) (x y : Nat) (hx : x < 18446744073709551616) (hy : y < 18446744073709551616) (h : okI x y = true) (px py p0 p1 : Int) (hpx : plc x = some px) (hpy : plc y = some py) (h0 : tmP x x = some p0) (h1 : tmP y y = some p1) : Calls Tryz.prog 24 #[.agg #[.float .f64 x, .float .f64 y]] w (Gives (TWO (IVN (sqL px py p0 p1) (sqH p0 p1)) (IS (.int .i64 0))) w) := by
  unfold sqL sqH
  by_cases hd : dnI (mnP (q2 p0 p1) 1) < 0
  · rw [if_pos (Or.inl hd)]; exact sqr_A w x y hx hy h px py p0 p1 hpx hpy h0 h1 hd
  · by_cases ha : px ≤ 0
    · by_cases hb : 0 ≤ py
      · rw [if_pos (Or.inr ⟨ha, hb⟩)]; exact sqr_B w x y hx hy h px py p0 p1 hpx hpy h0 h1 hd ha hb
      · rw [if_neg (by omega)]; exact sqr_C w x y hx hy h px py p0 p1 hpx hpy h0 h1 hd ha (by omega)
    · rw [if_neg (by omega)]; exact sqr_D w x y hx hy h px py p0 p1 hpx hpy h0 h1 hd (by omega)
theorem rsqr_w (w : World) (x y : Nat) (hx : x < 18446744073709551616) (hy : y < 18446744073709551616) (px py p0 p1 : Int) (hpx : plc x = some px) (hpy : plc y = some py) (h0 : arP .mul x x = some p0) (h1 : arP .mul y y = some p1) : Calls Tryz.prog 25 #[.agg #[.float .f64 x, .float .f64 y]] w (Gives (IVN (sqL px py p0 p1) (sqH p0 p1)) w) := by
  unfold sqL sqH
  by_cases hs : p1 < p0
  · have e1 : mnP (q2 p0 p1) 1 = p1 := by simp [mnP, q2, hs]
    have e2 : mxP (q2 p0 p1) 1 = p0 := by simp [mxP, q2]; omega
    rw [e1, e2]
    by_cases ha : px ≤ 0
    · by_cases hb : 0 ≤ py
      · rw [if_pos (Or.inr ⟨ha, hb⟩)]; exact rsqr_A1 w x y hx hy px py p0 p1 hpx hpy h0 h1 hs ha hb
      · by_cases hd : dnI p1 < 0
        · rw [if_pos (Or.inl hd)]; exact rsqr_B1 w x y hx hy px py p0 p1 hpx hpy h0 h1 hs ha (by omega) hd
        · rw [if_neg (by omega)]; exact rsqr_C1 w x y hx hy px py p0 p1 hpx hpy h0 h1 hs ha (by omega) hd
    · by_cases hd : dnI p1 < 0
      · rw [if_pos (Or.inl hd)]; exact rsqr_D1 w x y hx hy px py p0 p1 hpx hpy h0 h1 hs (by omega) hd
      · rw [if_neg (by omega)]; exact rsqr_E1 w x y hx hy px py p0 p1 hpx hpy h0 h1 hs (by omega) hd
  · have e1 : mnP (q2 p0 p1) 1 = p0 := by simp [mnP, q2]; omega
    have e2 : mxP (q2 p0 p1) 1 = p1 := by simp [mxP, q2]; omega
    rw [e1, e2]
    by_cases ha : px ≤ 0
    · by_cases hb : 0 ≤ py
      · rw [if_pos (Or.inr ⟨ha, hb⟩)]; exact rsqr_A0 w x y hx hy px py p0 p1 hpx hpy h0 h1 hs ha hb
      · by_cases hd : dnI p0 < 0
        · rw [if_pos (Or.inl hd)]; exact rsqr_B0 w x y hx hy px py p0 p1 hpx hpy h0 h1 hs ha (by omega) hd
        · rw [if_neg (by omega)]; exact rsqr_C0 w x y hx hy px py p0 p1 hpx hpy h0 h1 hs ha (by omega) hd
    · by_cases hd : dnI p0 < 0
      · rw [if_pos (Or.inl hd)]; exact rsqr_D0 w x y hx hy px py p0 p1 hpx hpy h0 h1 hs (by omega) hd
      · rw [if_neg (by omega)]; exact rsqr_E0 w x y hx hy px py p0 p1 hpx hpy h0 h1 hs (by omega) hd
set_option maxHeartbeats 2000000 in
theorem ivalprods_tt (w : World) (x y x1 y1 : Nat) (hx : x < 18446744073709551616) (hy : y < 18446744073709551616) (hx1 : x1 < 18446744073709551616) (hy1 : y1 < 18446744073709551616) (h : okI x y = true) (h' : okI x1 y1 = true) (px py s0 s1 : Int) (hpx : plc x = some px) (hpy : plc y = some py) (k0 : tmP x x = some s0) (k1 : tmP y y = some s1) (p0 p1 p2 p3 : Int) (h0 : tmP x x1 = some p0) (h1 : tmP x y1 = some p1) (h2 : tmP y x1 = some p2) (h3 : tmP y y1 = some p3) :
    Calls Tryz.prog 5 #[(.agg #[.float .f64 x, .float .f64 y]), (.agg #[.float .f64 x1, .float .f64 y1])] w (Gives (IS (.bool true)) w) := by
  refine calls_sta (sl := [(0, (SF [(Is (.float .f64 x)), (Is (.float .f64 y))])), (1, (SF [(Is (.float .f64 x1)), (Is (.float .f64 y1))]))]) Tryz.func5 rfl Tryz.ntmps5 (by simp) (args_cons rfl (ix_has) (args_cons rfl (ix_has) args_nil)) ?_
  intro a0 S0
  refine wp_stmt_seq [.new (.box 38 (SF [(Is (.float .f64 x)), (Is (.float .f64 y))])), .new (.box 38 (SF [(Is (.float .f64 x1)), (Is (.float .f64 y1))])), kF] [.inl 0, .inl 1] [] follows S0 rfl (by kernel_rfl) ?_ ?_
  · refine ⟨⟨⟨trivial, ?_⟩, ?_⟩, ?_⟩
    · exact owe_box rfl wA rfl (oS 0 0) rfl (fun ρ w h => box_ival shp_iv ρ _ _ w h)
    · exact owe_box rfl wA rfl (oS 1 1) rfl (fun ρ w h => box_ival shp_iv ρ _ _ w h)
    · exact mC
  intro B1 a1 W1 (S1 : Sta w 76 [(2, (.box 38 (SF [(Is (.float .f64 x)), (Is (.float .f64 y))]))), (3, (.box 38 (SF [(Is (.float .f64 x1)), (Is (.float .f64 y1))])))] [] _ _ _)
  refine wp_stmt_seq [.val (SF [(Is (.float .f64 x)), (Is (.float .f64 y))]), .val (SF [(Is (.float .f64 x1)), (Is (.float .f64 y1))]), .val ((TWO (IVN (loP (some (mnP (q4 p0 p1 p2 p3) 3))) (hiP (some (mxP (q4 p0 p1 p2 p3) 3)))) (IS (.int .i64 0))) w.heap.size), .val ((TWO (IVN (loP (some (mnP (q4 p0 p1 p2 p3) 3))) (hiP (some (mxP (q4 p0 p1 p2 p3) 3)))) (IS (.int .i64 0))) w.heap.size), .val (SF [(FL (loP (some (mnP (q4 p0 p1 p2 p3) 3)))), (FL (hiP (some (mxP (q4 p0 p1 p2 p3) 3))))]), .val (iV 0), .new (.box 38 (Is (.agg #[.float .f64 0, .float .f64 0]))), .put (.inr 6) (.box 38 (SF [(FL (loP (some (mnP (q4 p0 p1 p2 p3) 3)))), (FL (hiP (some (mxP (q4 p0 p1 p2 p3) 3))))])), .val (iV 0)] [.inr 0, .inr 1, .inl 6] [.inl 8] follows S1 rfl (by kernel_rfl) ?_ ?_
  · repeat' refine And.intro ?_ ?_
    · trivial
    · exact lod 0 wA (loads_of strct_ival shp_iv)
    · exact lod 1 wA (loads_of strct_ival shp_iv)
    · exact cc2 wA (qO 0 10 rfl) (qO 1 11 rfl) (fresh_two (fresh_iv _ _) (fresh_is _)) (ix2 (fun w => mul_tt w x y x1 y1 hx hy hx1 hy1 h h' p0 p1 p2 p3 h0 h1 h2 h3))
    · exact mO 2 12
    · exact e20 wA (oO 3 9)
    · exact e21 wA (oO 3 9)
    · exact owe_new rfl wA rfl rfl (fun ρ w => alloc_ival ρ _ w)
    · exact owe_put 6 rfl wA rfl (by kernel_rfl) rfl (oO 4 13) (stores_of strct_ival shp_i0 shp_iv) rfl
    · exact mO 5 14
  intro B2 a2 W2 (S2 : Sta w 76 [(2, (.box 38 (SF [(Is (.float .f64 x)), (Is (.float .f64 y))]))), (3, (.box 38 (SF [(Is (.float .f64 x1)), (Is (.float .f64 y1))]))), (5, (.box 38 (SF [(FL (loP (some (mnP (q4 p0 p1 p2 p3) 3)))), (FL (hiP (some (mxP (q4 p0 p1 p2 p3) 3))))])))] [(6, iV 0)] _ _ _)
  refine wp_stmt_seq [.val (SF [(Is (.float .f64 x)), (Is (.float .f64 y))]), .val ((TWO (IVN (sqL px py s0 s1) (sqH s0 s1)) (IS (.int .i64 0))) w.heap.size), .val ((TWO (IVN (sqL px py s0 s1) (sqH s0 s1)) (IS (.int .i64 0))) w.heap.size), .val (SF [(FL (sqL px py s0 s1)), (FL (sqH s0 s1))]), .val (iV 0), .new (.box 38 (Is (.agg #[.float .f64 0, .float .f64 0]))), .put (.inr 5) (.box 38 (SF [(FL (sqL px py s0 s1)), (FL (sqH s0 s1))])), .val (iV 0)] [.inr 0, .inr 1, .inr 2, .inl 5] [.inl 7, .inr 0] follows S2 rfl (by kernel_rfl) ?_ ?_
  · repeat' refine And.intro ?_ ?_
    · trivial
    · exact lod 0 wA (loads_of strct_ival shp_iv)
    · exact cc1 wA (qO 0 16 rfl) (fresh_two (fresh_iv _ _) (fresh_is _)) (ix1 (fun w => sqr_w w x y hx hy h px py s0 s1 hpx hpy k0 k1))
    · exact mO 1 17
    · exact e20 wA (oO 2 15)
    · exact e21 wA (oO 2 15)
    · exact owe_new rfl wA rfl rfl (fun ρ w => alloc_ival ρ _ w)
    · exact owe_put 5 rfl wA rfl (by kernel_rfl) rfl (oO 3 18) (stores_of strct_ival shp_i0 shp_iv) rfl
    · exact mO 4 19
  intro B3 a3 W3 (S3 : Sta w 76 [(2, (.box 38 (SF [(Is (.float .f64 x)), (Is (.float .f64 y))]))), (3, (.box 38 (SF [(Is (.float .f64 x1)), (Is (.float .f64 y1))]))), (5, (.box 38 (SF [(FL (loP (some (mnP (q4 p0 p1 p2 p3) 3)))), (FL (hiP (some (mxP (q4 p0 p1 p2 p3) 3))))]))), (7, (.box 38 (SF [(FL (sqL px py s0 s1)), (FL (sqH s0 s1))])))] [(8, iV 0), (6, iV 0)] _ _ _)
  refine wp_seq ?_
  refine wp_stmt_seq [.val (SF [(Is (.float .f64 x)), (Is (.float .f64 y))]), kT, kF] [.inr 0, .inr 1, .inr 2, .inr 3] [.inl 2, .inr 0, .inr 1] follows S3 rfl (by kernel_rfl) ?_ ?_
  · refine ⟨⟨⟨trivial, ?_⟩, ?_⟩, ?_⟩
    · exact lod 0 wA (loads_of strct_ival shp_iv)
    · exact cc1 wA (qO 0 20 rfl) (fresh_is _) (ix1 (fun w => rvalid_t w _ _ hx hy h))
    · exact b_not wA (oO 1 21)
  intro B4 a4 W4 (S4 : Sta w 76 [(2, (.box 38 (SF [(Is (.float .f64 x)), (Is (.float .f64 y))]))), (3, (.box 38 (SF [(Is (.float .f64 x1)), (Is (.float .f64 y1))]))), (5, (.box 38 (SF [(FL (loP (some (mnP (q4 p0 p1 p2 p3) 3)))), (FL (hiP (some (mxP (q4 p0 p1 p2 p3) 3))))]))), (7, (.box 38 (SF [(FL (sqL px py s0 s1)), (FL (sqH s0 s1))])))] [(22, bF), (8, iV 0), (6, iV 0)] _ _ _)
  refine wp_cond_false (S4.bool 0 22 rfl) ?_
  refine wp_skip ?_
  refine thenN ?_
  refine wp_seq ?_
  refine wp_stmt_seq [.val (iV 0), kF, kF, .val (SF [(FL (sqL px py s0 s1)), (FL (sqH s0 s1))]), .val (SF [(Is (.float .f64 x)), (Is (.float .f64 y))]), .val (SF [(FL (sqL px py s0 s1)), (FL (sqH s0 s1))]), kT, kF, kF] [.inr 0, .inr 1, .inr 2, .inr 3] [.inl 8, .inr 2] follows S4 rfl (by kernel_rfl) ?_ ?_
  · repeat' refine And.intro ?_ ?_
    · trivial
    · exact mS 1 8
    · exact b_neq_errno_f wA (oO 0 42) (opnd_const _) (h := rfl)
    · exact mO 1 43
    · exact lod 3 (wI 2 44) (loads_of strct_ival shp_iv)
    · exact lod 0 (wI 2 44) (loads_of strct_ival shp_iv)
    · exact cc1 (wI 2 44) (qO 4 46 rfl) (fresh_iv _ _) (ix1 (fun w => rsqr_w w x y hx hy px py s0 s1 hpx hpy ((sq_tm hpx).trans k0) ((sq_tm hpy).trans k1)))
    · exact cc2 (wI 2 44) (qO 3 45 rfl) (qO 5 47 rfl) (fresh_is _) h_same
    · exact b_not (wI 2 44) (oO 6 48)
    · exact pF wA (oO 2 44) (oO 7 49)
  intro B5 a5 W5 (S5 : Sta w 76 [(2, (.box 38 (SF [(Is (.float .f64 x)), (Is (.float .f64 y))]))), (3, (.box 38 (SF [(Is (.float .f64 x1)), (Is (.float .f64 y1))]))), (5, (.box 38 (SF [(FL (loP (some (mnP (q4 p0 p1 p2 p3) 3)))), (FL (hiP (some (mxP (q4 p0 p1 p2 p3) 3))))]))), (7, (.box 38 (SF [(FL (sqL px py s0 s1)), (FL (sqH s0 s1))])))] [(50, bF), (6, iV 0)] _ _ _)
  refine wp_cond_false (S5.bool 0 50 rfl) ?_
  refine wp_skip ?_
  refine thenN ?_
  refine wp_seq ?_
  refine wp_stmt_seq [.val (SF [(Is (.float .f64 x1)), (Is (.float .f64 y1))]), kT, kF] [.inr 0, .inr 1, .inr 2, .inr 3] [.inl 2, .inr 1] follows S5 rfl (by kernel_rfl) ?_ ?_
  · refine ⟨⟨⟨trivial, ?_⟩, ?_⟩, ?_⟩
    · exact lod 1 wA (loads_of strct_ival shp_iv)
    · exact cc1 wA (qO 0 51 rfl) (fresh_is _) (ix1 (fun w => rvalid_t w _ _ hx1 hy1 h'))
    · exact b_not wA (oO 1 52)
  intro B6 a6 W6 (S6 : Sta w 76 [(2, (.box 38 (SF [(Is (.float .f64 x)), (Is (.float .f64 y))]))), (3, (.box 38 (SF [(Is (.float .f64 x1)), (Is (.float .f64 y1))]))), (5, (.box 38 (SF [(FL (loP (some (mnP (q4 p0 p1 p2 p3) 3)))), (FL (hiP (some (mxP (q4 p0 p1 p2 p3) 3))))]))), (7, (.box 38 (SF [(FL (sqL px py s0 s1)), (FL (sqH s0 s1))])))] [(53, bF), (6, iV 0)] _ _ _)
  refine wp_cond_false (S6.bool 0 53 rfl) ?_
  refine wp_skip ?_
  refine thenN ?_
  refine wp_stmt_seq [.val (iV 0), kT, kT, .val (SF [(FL (loP (some (mnP (q4 p0 p1 p2 p3) 3)))), (FL (hiP (some (mxP (q4 p0 p1 p2 p3) 3))))]), .val (SF [(Is (.float .f64 x)), (Is (.float .f64 y))]), .val (SF [(Is (.float .f64 x1)), (Is (.float .f64 y1))]), .val (SF [(FL (loP (some (mnP (q4 p0 p1 p2 p3) 3)))), (FL (hiP (some (mxP (q4 p0 p1 p2 p3) 3))))]), kT, kT, kT, kT, kT, kT] [.inr 0, .inr 1, .inr 2, .inr 3] [.inl 12] follows S6 rfl (by kernel_rfl) ?_ ?_
  · repeat' refine And.intro ?_ ?_
    · trivial
    · exact mS 1 6
    · exact b_eql_errno_t wA (oO 0 64) (opnd_const _) (h := rfl)
    · exact mO 1 65
    · exact lod 2 (wI 2 66) (loads_of strct_ival shp_iv)
    · exact lod 0 (wI 2 66) (loads_of strct_ival shp_iv)
    · exact lod 1 (wI 2 66) (loads_of strct_ival shp_iv)
    · exact cc2 (wI 2 66) (qO 4 68 rfl) (qO 5 69 rfl) (fresh_iv _ _) (ix2 (fun w => rmul_w w x y x1 y1 hx hy hx1 hy1 p0 p1 p2 p3 h0 h1 h2 h3))
    · exact cc2 (wI 2 66) (qO 3 67 rfl) (qO 6 70 rfl) (fresh_is _) h_same
    · exact pT wA (oO 2 66) (oO 7 71)
    · exact mO 8 72
    · exact owe_call0 rfl (wI 9 73) rfl  (fresh_is _) rfl (fun args w => by go_simp) awake_w
    · exact pT wA (oO 9 73) (oO 10 74)
    · exact mO 11 75
  intro B7 a7 W7 (S7 : Sta w 76 [(2, (.box 38 (SF [(Is (.float .f64 x)), (Is (.float .f64 y))]))), (3, (.box 38 (SF [(Is (.float .f64 x1)), (Is (.float .f64 y1))]))), (5, (.box 38 (SF [(FL (loP (some (mnP (q4 p0 p1 p2 p3) 3)))), (FL (hiP (some (mxP (q4 p0 p1 p2 p3) 3))))]))), (7, (.box 38 (SF [(FL (sqL px py s0 s1)), (FL (sqH s0 s1))])))] [(4, bT)] _ _ _)
  refine wp_ret ?_
  exact end_one S7 rfl (res_tmp S7 0 4 rfl)
set_option maxHeartbeats 2000000 in
theorem ivalprods_tf (w : World) (x y x1 y1 : Nat) (hx : x < 18446744073709551616) (hy : y < 18446744073709551616) (hx1 : x1 < 18446744073709551616) (hy1 : y1 < 18446744073709551616) (h : okI x y = true) (h' : okI x1 y1 = false) (px py s0 s1 : Int) (hpx : plc x = some px) (hpy : plc y = some py) (k0 : tmP x x = some s0) (k1 : tmP y y = some s1) :
    Calls Tryz.prog 5 #[(.agg #[.float .f64 x, .float .f64 y]), (.agg #[.float .f64 x1, .float .f64 y1])] w (Gives (IS (.bool true)) w) := by
  refine calls_sta (sl := [(0, (SF [(Is (.float .f64 x)), (Is (.float .f64 y))])), (1, (SF [(Is (.float .f64 x1)), (Is (.float .f64 y1))]))]) Tryz.func5 rfl Tryz.ntmps5 (by simp) (args_cons rfl (ix_has) (args_cons rfl (ix_has) args_nil)) ?_
  intro a0 S0
  refine wp_stmt_seq [.new (.box 38 (SF [(Is (.float .f64 x)), (Is (.float .f64 y))])), .new (.box 38 (SF [(Is (.float .f64 x1)), (Is (.float .f64 y1))])), kF] [.inl 0, .inl 1] [] follows S0 rfl (by kernel_rfl) ?_ ?_
  · refine ⟨⟨⟨trivial, ?_⟩, ?_⟩, ?_⟩
    · exact owe_box rfl wA rfl (oS 0 0) rfl (fun ρ w h => box_ival shp_iv ρ _ _ w h)
    · exact owe_box rfl wA rfl (oS 1 1) rfl (fun ρ w h => box_ival shp_iv ρ _ _ w h)
    · exact mC
  intro B1 a1 W1 (S1 : Sta w 76 [(2, (.box 38 (SF [(Is (.float .f64 x)), (Is (.float .f64 y))]))), (3, (.box 38 (SF [(Is (.float .f64 x1)), (Is (.float .f64 y1))])))] [] _ _ _)
  refine wp_stmt_seq [.val (SF [(Is (.float .f64 x)), (Is (.float .f64 y))]), .val (SF [(Is (.float .f64 x1)), (Is (.float .f64 y1))]), .val ((TWO (fun _ => SF [Is (.float .f64 0), Is (.float .f64 0)]) (IS (.int .i64 90))) w.heap.size), .val ((TWO (fun _ => SF [Is (.float .f64 0), Is (.float .f64 0)]) (IS (.int .i64 90))) w.heap.size), .val (SF [(Is (.float .f64 0)), (Is (.float .f64 0))]), .val (iV 90), .new (.box 38 (Is (.agg #[.float .f64 0, .float .f64 0]))), .put (.inr 6) (.box 38 (SF [(Is (.float .f64 0)), (Is (.float .f64 0))])), .val (iV 90)] [.inr 0, .inr 1, .inl 6] [.inl 8] follows S1 rfl (by kernel_rfl) ?_ ?_
  · repeat' refine And.intro ?_ ?_
    · trivial
    · exact lod 0 wA (loads_of strct_ival shp_iv)
    · exact lod 1 wA (loads_of strct_ival shp_iv)
    · exact cc2 wA (qO 0 10 rfl) (qO 1 11 rfl) (fresh_two fresh_ix (fresh_is _)) (ix2 (fun w => mul_tf w x y x1 y1 hx hy hx1 hy1 h h'))
    · exact mO 2 12
    · exact e20 wA (oO 3 9)
    · exact e21 wA (oO 3 9)
    · exact owe_new rfl wA rfl rfl (fun ρ w => alloc_ival ρ _ w)
    · exact owe_put 6 rfl wA rfl (by kernel_rfl) rfl (oO 4 13) (stores_of strct_ival shp_i0 shp_iv) rfl
    · exact mO 5 14
  intro B2 a2 W2 (S2 : Sta w 76 [(2, (.box 38 (SF [(Is (.float .f64 x)), (Is (.float .f64 y))]))), (3, (.box 38 (SF [(Is (.float .f64 x1)), (Is (.float .f64 y1))]))), (5, (.box 38 (SF [(Is (.float .f64 0)), (Is (.float .f64 0))])))] [(6, iV 90)] _ _ _)
  refine wp_stmt_seq [.val (SF [(Is (.float .f64 x)), (Is (.float .f64 y))]), .val ((TWO (IVN (sqL px py s0 s1) (sqH s0 s1)) (IS (.int .i64 0))) w.heap.size), .val ((TWO (IVN (sqL px py s0 s1) (sqH s0 s1)) (IS (.int .i64 0))) w.heap.size), .val (SF [(FL (sqL px py s0 s1)), (FL (sqH s0 s1))]), .val (iV 0), .new (.box 38 (Is (.agg #[.float .f64 0, .float .f64 0]))), .put (.inr 5) (.box 38 (SF [(FL (sqL px py s0 s1)), (FL (sqH s0 s1))])), .val (iV 0)] [.inr 0, .inr 1, .inr 2, .inl 5] [.inl 7, .inr 0] follows S2 rfl (by kernel_rfl) ?_ ?_
  · repeat' refine And.intro ?_ ?_
    · trivial
    · exact lod 0 wA (loads_of strct_ival shp_iv)
    · exact cc1 wA (qO 0 16 rfl) (fresh_two (fresh_iv _ _) (fresh_is _)) (ix1 (fun w => sqr_w w x y hx hy h px py s0 s1 hpx hpy k0 k1))
    · exact mO 1 17
    · exact e20 wA (oO 2 15)
    · exact e21 wA (oO 2 15)
    · exact owe_new rfl wA rfl rfl (fun ρ w => alloc_ival ρ _ w)
    · exact owe_put 5 rfl wA rfl (by kernel_rfl) rfl (oO 3 18) (stores_of strct_ival shp_i0 shp_iv) rfl
    · exact mO 4 19
  intro B3 a3 W3 (S3 : Sta w 76 [(2, (.box 38 (SF [(Is (.float .f64 x)), (Is (.float .f64 y))]))), (3, (.box 38 (SF [(Is (.float .f64 x1)), (Is (.float .f64 y1))]))), (5, (.box 38 (SF [(Is (.float .f64 0)), (Is (.float .f64 0))]))), (7, (.box 38 (SF [(FL (sqL px py s0 s1)), (FL (sqH s0 s1))])))] [(8, iV 0), (6, iV 90)] _ _ _)
  refine wp_seq ?_
  refine wp_stmt_seq [.val (SF [(Is (.float .f64 x)), (Is (.float .f64 y))]), kT, kF] [.inr 0, .inr 1, .inr 2, .inr 3] [.inl 2, .inr 0, .inr 1] follows S3 rfl (by kernel_rfl) ?_ ?_
  · refine ⟨⟨⟨trivial, ?_⟩, ?_⟩, ?_⟩
    · exact lod 0 wA (loads_of strct_ival shp_iv)
    · exact cc1 wA (qO 0 20 rfl) (fresh_is _) (ix1 (fun w => rvalid_t w _ _ hx hy h))
    · exact b_not wA (oO 1 21)
  intro B4 a4 W4 (S4 : Sta w 76 [(2, (.box 38 (SF [(Is (.float .f64 x)), (Is (.float .f64 y))]))), (3, (.box 38 (SF [(Is (.float .f64 x1)), (Is (.float .f64 y1))]))), (5, (.box 38 (SF [(Is (.float .f64 0)), (Is (.float .f64 0))]))), (7, (.box 38 (SF [(FL (sqL px py s0 s1)), (FL (sqH s0 s1))])))] [(22, bF), (8, iV 0), (6, iV 90)] _ _ _)
  refine wp_cond_false (S4.bool 0 22 rfl) ?_
  refine wp_skip ?_
  refine thenN ?_
  refine wp_seq ?_
  refine wp_stmt_seq [.val (iV 0), kF, kF, .val (SF [(FL (sqL px py s0 s1)), (FL (sqH s0 s1))]), .val (SF [(Is (.float .f64 x)), (Is (.float .f64 y))]), .val (SF [(FL (sqL px py s0 s1)), (FL (sqH s0 s1))]), kT, kF, kF] [.inr 0, .inr 1, .inr 2, .inr 3] [.inl 8, .inr 2] follows S4 rfl (by kernel_rfl) ?_ ?_
  · repeat' refine And.intro ?_ ?_
    · trivial
    · exact mS 1 8
    · exact b_neq_errno_f wA (oO 0 42) (opnd_const _) (h := rfl)
    · exact mO 1 43
    · exact lod 3 (wI 2 44) (loads_of strct_ival shp_iv)
    · exact lod 0 (wI 2 44) (loads_of strct_ival shp_iv)
    · exact cc1 (wI 2 44) (qO 4 46 rfl) (fresh_iv _ _) (ix1 (fun w => rsqr_w w x y hx hy px py s0 s1 hpx hpy ((sq_tm hpx).trans k0) ((sq_tm hpy).trans k1)))
    · exact cc2 (wI 2 44) (qO 3 45 rfl) (qO 5 47 rfl) (fresh_is _) h_same
    · exact b_not (wI 2 44) (oO 6 48)
    · exact pF wA (oO 2 44) (oO 7 49)
  intro B5 a5 W5 (S5 : Sta w 76 [(2, (.box 38 (SF [(Is (.float .f64 x)), (Is (.float .f64 y))]))), (3, (.box 38 (SF [(Is (.float .f64 x1)), (Is (.float .f64 y1))]))), (5, (.box 38 (SF [(Is (.float .f64 0)), (Is (.float .f64 0))]))), (7, (.box 38 (SF [(FL (sqL px py s0 s1)), (FL (sqH s0 s1))])))] [(50, bF), (6, iV 90)] _ _ _)
  refine wp_cond_false (S5.bool 0 50 rfl) ?_
  refine wp_skip ?_
  refine thenN ?_
  refine wp_seq ?_
  refine wp_stmt_seq [.val (SF [(Is (.float .f64 x1)), (Is (.float .f64 y1))]), kF, kT] [.inr 0, .inr 1, .inr 2, .inr 3] [.inl 2, .inr 1] follows S5 rfl (by kernel_rfl) ?_ ?_
  · refine ⟨⟨⟨trivial, ?_⟩, ?_⟩, ?_⟩
    · exact lod 1 wA (loads_of strct_ival shp_iv)
    · exact cc1 wA (qO 0 51 rfl) (fresh_is _) (ix1 (fun w => rvalid_f w _ _ hx1 hy1 h'))
    · exact b_not wA (oO 1 52)
  intro B6 a6 W6 (S6 : Sta w 76 [(2, (.box 38 (SF [(Is (.float .f64 x)), (Is (.float .f64 y))]))), (3, (.box 38 (SF [(Is (.float .f64 x1)), (Is (.float .f64 y1))]))), (5, (.box 38 (SF [(Is (.float .f64 0)), (Is (.float .f64 0))]))), (7, (.box 38 (SF [(FL (sqL px py s0 s1)), (FL (sqH s0 s1))])))] [(53, bT), (6, iV 90)] _ _ _)
  refine wp_cond_true (S6.bool 0 53 rfl) ?_
  refine wp_stmt_seq [.val (iV 90), kT, kT, .val (SF [(Is (.float .f64 0)), (Is (.float .f64 0))]), .val (SF [(Is (.float .f64 0)), (Is (.float .f64 0))]), kT, kT, kT, kT, kT, kT] [.inr 0, .inr 1, .inr 2, .inr 3] [.inl 10] follows S6 rfl (by kernel_rfl) ?_ ?_
  · repeat' refine And.intro ?_ ?_
    · trivial
    · exact mS 1 6
    · exact b_eql_errno_t wA (oO 0 54) (opnd_const _) (h := rfl)
    · exact mO 1 55
    · exact lod 2 (wI 2 56) (loads_of strct_ival shp_iv)
    · exact owe_build_iv0 rfl (wI 2 56) rfl rfl
    · exact cc2 (wI 2 56) (qO 3 57 rfl) (qO 4 58 rfl) (fresh_is _) (fun w u v h1 h2 => h_same w u v (ix_fl (by decide) (by decide) _ _ h1) (ix_fl (by decide) (by decide) _ _ h2))
    · exact pT wA (oO 2 56) (oO 5 59)
    · exact mO 6 60
    · exact owe_call0 rfl (wI 7 61) rfl  (fresh_is _) rfl (fun args w => by go_simp) awake_w
    · exact pT wA (oO 7 61) (oO 8 62)
    · exact mO 9 63
  intro B7 a7 W7 (S7 : Sta w 76 [(2, (.box 38 (SF [(Is (.float .f64 x)), (Is (.float .f64 y))]))), (3, (.box 38 (SF [(Is (.float .f64 x1)), (Is (.float .f64 y1))]))), (5, (.box 38 (SF [(Is (.float .f64 0)), (Is (.float .f64 0))]))), (7, (.box 38 (SF [(FL (sqL px py s0 s1)), (FL (sqH s0 s1))])))] [(4, bT)] _ _ _)
  refine wp_ret ?_
  refine thenR ?_
  exact end_one S7 rfl (res_tmp S7 0 4 rfl)
set_option maxHeartbeats 2000000 in
theorem ivalprods_f (w : World) (x y x1 y1 : Nat) (hx : x < 18446744073709551616) (hy : y < 18446744073709551616) (hx1 : x1 < 18446744073709551616) (hy1 : y1 < 18446744073709551616) (h : okI x y = false) :
    Calls Tryz.prog 5 #[(.agg #[.float .f64 x, .float .f64 y]), (.agg #[.float .f64 x1, .float .f64 y1])] w (Gives (IS (.bool true)) w) := by
  refine calls_sta (sl := [(0, (SF [(Is (.float .f64 x)), (Is (.float .f64 y))])), (1, (SF [(Is (.float .f64 x1)), (Is (.float .f64 y1))]))]) Tryz.func5 rfl Tryz.ntmps5 (by simp) (args_cons rfl (ix_has) (args_cons rfl (ix_has) args_nil)) ?_
  intro a0 S0
  refine wp_stmt_seq [.new (.box 38 (SF [(Is (.float .f64 x)), (Is (.float .f64 y))])), .new (.box 38 (SF [(Is (.float .f64 x1)), (Is (.float .f64 y1))])), kF] [.inl 0, .inl 1] [] follows S0 rfl (by kernel_rfl) ?_ ?_
  · refine ⟨⟨⟨trivial, ?_⟩, ?_⟩, ?_⟩
    · exact owe_box rfl wA rfl (oS 0 0) rfl (fun ρ w h => box_ival shp_iv ρ _ _ w h)
    · exact owe_box rfl wA rfl (oS 1 1) rfl (fun ρ w h => box_ival shp_iv ρ _ _ w h)
    · exact mC
  intro B1 a1 W1 (S1 : Sta w 76 [(2, (.box 38 (SF [(Is (.float .f64 x)), (Is (.float .f64 y))]))), (3, (.box 38 (SF [(Is (.float .f64 x1)), (Is (.float .f64 y1))])))] [] _ _ _)
  refine wp_stmt_seq [.val (SF [(Is (.float .f64 x)), (Is (.float .f64 y))]), .val (SF [(Is (.float .f64 x1)), (Is (.float .f64 y1))]), .val ((TWO (fun _ => SF [Is (.float .f64 0), Is (.float .f64 0)]) (IS (.int .i64 90))) w.heap.size), .val ((TWO (fun _ => SF [Is (.float .f64 0), Is (.float .f64 0)]) (IS (.int .i64 90))) w.heap.size), .val (SF [(Is (.float .f64 0)), (Is (.float .f64 0))]), .val (iV 90), .new (.box 38 (Is (.agg #[.float .f64 0, .float .f64 0]))), .put (.inr 6) (.box 38 (SF [(Is (.float .f64 0)), (Is (.float .f64 0))])), .val (iV 90)] [.inr 0, .inr 1, .inl 6] [.inl 8] follows S1 rfl (by kernel_rfl) ?_ ?_
  · repeat' refine And.intro ?_ ?_
    · trivial
    · exact lod 0 wA (loads_of strct_ival shp_iv)
    · exact lod 1 wA (loads_of strct_ival shp_iv)
    · exact cc2 wA (qO 0 10 rfl) (qO 1 11 rfl) (fresh_two fresh_ix (fresh_is _)) (ix2 (fun w => mul_f w x y x1 y1 hx hy hx1 hy1 h))
    · exact mO 2 12
    · exact e20 wA (oO 3 9)
    · exact e21 wA (oO 3 9)
    · exact owe_new rfl wA rfl rfl (fun ρ w => alloc_ival ρ _ w)
    · exact owe_put 6 rfl wA rfl (by kernel_rfl) rfl (oO 4 13) (stores_of strct_ival shp_i0 shp_iv) rfl
    · exact mO 5 14
  intro B2 a2 W2 (S2 : Sta w 76 [(2, (.box 38 (SF [(Is (.float .f64 x)), (Is (.float .f64 y))]))), (3, (.box 38 (SF [(Is (.float .f64 x1)), (Is (.float .f64 y1))]))), (5, (.box 38 (SF [(Is (.float .f64 0)), (Is (.float .f64 0))])))] [(6, iV 90)] _ _ _)
  refine wp_stmt_seq [.val (SF [(Is (.float .f64 x)), (Is (.float .f64 y))]), .val ((TWO (fun _ => SF [Is (.float .f64 0), Is (.float .f64 0)]) (IS (.int .i64 90))) w.heap.size), .val ((TWO (fun _ => SF [Is (.float .f64 0), Is (.float .f64 0)]) (IS (.int .i64 90))) w.heap.size), .val (SF [(Is (.float .f64 0)), (Is (.float .f64 0))]), .val (iV 90), .new (.box 38 (Is (.agg #[.float .f64 0, .float .f64 0]))), .put (.inr 5) (.box 38 (SF [(Is (.float .f64 0)), (Is (.float .f64 0))])), .val (iV 90)] [.inr 0, .inr 1, .inr 2, .inl 5] [.inl 7, .inr 0] follows S2 rfl (by kernel_rfl) ?_ ?_
  · repeat' refine And.intro ?_ ?_
    · trivial
    · exact lod 0 wA (loads_of strct_ival shp_iv)
    · exact cc1 wA (qO 0 16 rfl) (fresh_two fresh_ix (fresh_is _)) (ix1 (fun w => sqr_f w x y hx hy h))
    · exact mO 1 17
    · exact e20 wA (oO 2 15)
    · exact e21 wA (oO 2 15)
    · exact owe_new rfl wA rfl rfl (fun ρ w => alloc_ival ρ _ w)
    · exact owe_put 5 rfl wA rfl (by kernel_rfl) rfl (oO 3 18) (stores_of strct_ival shp_i0 shp_iv) rfl
    · exact mO 4 19
  intro B3 a3 W3 (S3 : Sta w 76 [(2, (.box 38 (SF [(Is (.float .f64 x)), (Is (.float .f64 y))]))), (3, (.box 38 (SF [(Is (.float .f64 x1)), (Is (.float .f64 y1))]))), (5, (.box 38 (SF [(Is (.float .f64 0)), (Is (.float .f64 0))]))), (7, (.box 38 (SF [(Is (.float .f64 0)), (Is (.float .f64 0))])))] [(8, iV 90), (6, iV 90)] _ _ _)
  refine wp_seq ?_
  refine wp_stmt_seq [.val (SF [(Is (.float .f64 x)), (Is (.float .f64 y))]), kF, kT] [.inr 0, .inr 1, .inr 2, .inr 3] [.inl 2, .inr 0, .inr 1] follows S3 rfl (by kernel_rfl) ?_ ?_
  · refine ⟨⟨⟨trivial, ?_⟩, ?_⟩, ?_⟩
    · exact lod 0 wA (loads_of strct_ival shp_iv)
    · exact cc1 wA (qO 0 20 rfl) (fresh_is _) (ix1 (fun w => rvalid_f w _ _ hx hy h))
    · exact b_not wA (oO 1 21)
  intro B4 a4 W4 (S4 : Sta w 76 [(2, (.box 38 (SF [(Is (.float .f64 x)), (Is (.float .f64 y))]))), (3, (.box 38 (SF [(Is (.float .f64 x1)), (Is (.float .f64 y1))]))), (5, (.box 38 (SF [(Is (.float .f64 0)), (Is (.float .f64 0))]))), (7, (.box 38 (SF [(Is (.float .f64 0)), (Is (.float .f64 0))])))] [(22, bT), (8, iV 90), (6, iV 90)] _ _ _)
  refine wp_cond_true (S4.bool 0 22 rfl) ?_
  refine wp_stmt_seq [.val (iV 90), kT, kT, .val (iV 90), kT, kT, kT, .val (SF [(Is (.float .f64 0)), (Is (.float .f64 0))]), .val (SF [(Is (.float .f64 0)), (Is (.float .f64 0))]), kT, kT, kT, .val (SF [(Is (.float .f64 0)), (Is (.float .f64 0))]), .val (SF [(Is (.float .f64 0)), (Is (.float .f64 0))]), kT, kT, kT, kT, kT, kT] [.inr 0, .inr 1, .inr 2, .inr 3] [.inl 19] follows S4 rfl (by kernel_rfl) ?_ ?_
  · repeat' refine And.intro ?_ ?_
    · trivial
    · exact mS 2 6
    · exact b_eql_errno_t wA (oO 0 23) (opnd_const _) (h := rfl)
    · exact mO 1 24
    · exact mW (wI 2 25) (oS 1 8)
    · exact b_eql_errno_t (wI 2 25) (oO 3 26) (opnd_const _) (h := rfl)
    · exact pT wA (oO 2 25) (oO 4 27)
    · exact mO 5 28
    · exact lod 2 (wI 6 29) (loads_of strct_ival shp_iv)
    · exact owe_build_iv0 rfl (wI 6 29) rfl rfl
    · exact cc2 (wI 6 29) (qO 7 30 rfl) (qO 8 31 rfl) (fresh_is _) (fun w u v h1 h2 => h_same w u v (ix_fl (by decide) (by decide) _ _ h1) (ix_fl (by decide) (by decide) _ _ h2))
    · exact pT wA (oO 6 29) (oO 9 32)
    · exact mO 10 33
    · exact lod 3 (wI 11 34) (loads_of strct_ival shp_iv)
    · exact owe_build_iv0 rfl (wI 11 34) rfl rfl
    · exact cc2 (wI 11 34) (qO 12 35 rfl) (qO 13 36 rfl) (fresh_is _) (fun w u v h1 h2 => h_same w u v (ix_fl (by decide) (by decide) _ _ h1) (ix_fl (by decide) (by decide) _ _ h2))
    · exact pT wA (oO 11 34) (oO 14 37)
    · exact mO 15 38
    · exact owe_call0 rfl (wI 16 39) rfl  (fresh_is _) rfl (fun args w => by go_simp) awake_w
    · exact pT wA (oO 16 39) (oO 17 40)
    · exact mO 18 41
  intro B5 a5 W5 (S5 : Sta w 76 [(2, (.box 38 (SF [(Is (.float .f64 x)), (Is (.float .f64 y))]))), (3, (.box 38 (SF [(Is (.float .f64 x1)), (Is (.float .f64 y1))]))), (5, (.box 38 (SF [(Is (.float .f64 0)), (Is (.float .f64 0))]))), (7, (.box 38 (SF [(Is (.float .f64 0)), (Is (.float .f64 0))])))] [(4, bT)] _ _ _)
  refine wp_ret ?_
  refine thenR ?_
  exact end_one S5 rfl (res_tmp S5 0 4 rfl)

theorem ivalprods_walk (w : World) (x y x1 y1 : Nat) (hx : x < 18446744073709551616) (hy : y < 18446744073709551616) (hx1 : x1 < 18446744073709551616) (hy1 : y1 < 18446744073709551616) : Calls Tryz.prog 5 #[.agg #[.float .f64 x, .float .f64 y], .agg #[.float .f64 x1, .float .f64 y1]] w fun e w' => e = .returned (.bool true) ∧ Below w.heap.size w w' := by
  refine Calls.mono (R := Gives (IS (.bool true)) w) ?_ (fun e w' ⟨v, he, hb, hv⟩ => ⟨by rw [he, show v = _ from hv], hb⟩)
  cases h : okI x y with
  | false => exact ivalprods_f w x y x1 y1 hx hy hx1 hy1 h
  | true =>
    obtain ⟨px, py, hpx, hpy, _⟩ := ok_some h
    obtain ⟨s0, k0, _⟩ := tm_some hpx hpx
    obtain ⟨s1, k1, _⟩ := tm_some hpy hpy
    cases h' : okI x1 y1 with
    | false => exact ivalprods_tf w x y x1 y1 hx hy hx1 hy1 h h' px py s0 s1 hpx hpy k0 k1
    | true =>
      obtain ⟨qx, qy, hqx, hqy, _⟩ := ok_some h'
      obtain ⟨p0, h0, _⟩ := tm_some hpx hqx
      obtain ⟨p1, h1, _⟩ := tm_some hpx hqy
      obtain ⟨p2, h2, _⟩ := tm_some hpy hqx
      obtain ⟨p3, h3, _⟩ := tm_some hpy hqy
      exact ivalprods_tt w x y x1 y1 hx hy hx1 hy1 h h' px py s0 s1 hpx hpy k0 k1 p0 p1 p2 p3 h0 h1 h2 h3
end Go.Proofs.YtgalppimdmjdcaaGreat
