import Derived.Test.YtgalppimdmjdcabGreatDoorIfB
import Derived.Test.YtgalppimdmjdcabGreatDoorIfH
import Derived.Test.YtgalppimdmjdcabGreatDoorZUp
import Derived.Test.YtgalppimdmjdcabGreatDoorIfF
import Derived.Test.YtgalppimdmjdcabGreatDoorSetS
/-
  OfInt and OfRat, the program's and the document's.
-/
namespace Go.Proofs.YtgalppimdmjdcabGreatDoor
open Go Go.RowKit Nt
set_option linter.unusedSimpArgs false
set_option linter.unusedVariables false
set_option maxRecDepth 20000

section
variable {ops : Array Oper} {l : List Kd} {bx : Bxs} {sl : List (Tmp × Pr)} {i : Nat} {o : Oper} {Q : Exit → Act → World → Prop} {a0 : Act} {n : Nat} {w0 : World}
theorem owe_two {x y : Operand} {P' : Op} {u v r : Value} (ho : ops[i]? = some o) (hw : Wants ops l bx sl i o) (hop : o.op = P') (hx : Opnd ops l bx sl i x (Is u)) (hy : Opnd ops l bx sl i y (Is v)) (hk : kdAt l i = .val (Is r))
    (hr : ∀ (ρ : Operand → Value) (w : World), ρ x = u → ρ y = v → (execOp ρ { o with op := P' }).run Tryz.prog w = .ok (.value r) w) : Owed Tryz.prog ops Q l bx sl a0 n w0 i :=
  owe_is ho hw hk fun vs B a w c => by
    have := hr a.eval w (hx a0 n w0 vs B a w c).now (hy a0 n w0 vs B a w c).now
    rw [← this]
    unfold execOp
    rw [hop]
end
theorem run_min_int (ρ : Operand → Value) (o : Oper) (x y : Operand) (w : World) (a b r : Int) (h : (a ≤ b ∧ r = a) ∨ (b ≤ a ∧ r = b)) (h1 : ρ x = .int .i64 a) (h2 : ρ y = .int .i64 b) : (execOp ρ { o with op := .call { callee := .builtin .min, args := #[x, y], argTypes := #[3, 3] } }).run Tryz.prog w = .ok (.value (.int .i64 r)) w := by
  have e : min a b = r := by rcases h with ⟨h, rfl⟩ | ⟨h, rfl⟩ <;> omega
  rw [← e]
  unfold execOp
  go_simp
theorem sgz {A : Int} (h : A = 0) : A.sign = 0 := by rw [h]; rfl
theorem sign_ne {A : Int} (h : A ≠ 0) : ¬ A.sign = 0 := fun e => h (Int.sign_eq_zero_iff_zero.1 e)
theorem sign_neg' {A : Int} (h : A < 0) : A.sign < 0 := by rw [Int.sign_eq_neg_one_of_neg h]; decide
theorem sign_nn {A : Int} (h : ¬ A < 0) : 0 ≤ A.sign := by
  rcases Int.lt_or_eq_of_le (Int.not_lt.1 h) with h | h
  · rw [Int.sign_eq_one_of_pos h]; decide
  · rw [← h]; decide
theorem run_sgn (ρ : Operand → Value) (o : Oper) (x y : Operand) (w : World) (A : Int) (h1 : ρ x = .int .i64 A.sign) (h2 : ρ y = .int .i64 0) : (execOp ρ { o with op := .binOp .lss 3 x y 3 }).run Tryz.prog w = .ok (.value (.bool (ng A))) w := by
  unfold ng
  by_cases h : A < 0
  · rw [decide_eq_true h]; exact run_lss_int_t ρ o x y w _ _ (sign_neg' h) h1 h2
  · rw [decide_eq_false h]; exact run_lss_int_f ρ o x y w _ _ (sign_nn h) h1 h2
theorem run_sg0 (ρ : Operand → Value) (o : Oper) (x y : Operand) (w : World) (r : Nat) (h1 : ρ x = .int .i64 ((r : Nat) : Int).sign) (h2 : ρ y = .int .i64 0) : (execOp ρ { o with op := .binOp .eql 3 x y 3 }).run Tryz.prog w = .ok (.value (.bool (decide (r = 0)))) w := by
  by_cases h : r = 0
  · rw [decide_eq_true h]; exact run_eql_int_t ρ o x y w _ _ (sgz (by omega)) h1 h2
  · rw [decide_eq_false h]; exact run_eql_int_f ρ o x y w _ _ (sign_ne (by omega)) h1 h2
theorem g_ztopI {A : Int} {k : Nat} {t : Bool} (hk : k ≤ 1048576) (hI : tI A = t) : ∀ w u, T32 w → Zv A k u w → Calls Tryz.prog 48 #[u] w (Gives (THREE (IS (.int .u64 (tM A : Nat))) (IS (.int .i64 (tE A : Nat))) (IS (.bool t))) w) := by rw [← hI]; exact g_ztop hk
theorem up_r {r : Nat} (h : r ≤ 9218868437227405311) : upP (some ((r : Nat) : Int)) = some (((r : Nat) : Int) + 1) := by simp only [upP]; rw [if_neg (by omega)]
set_option maxHeartbeats 400000 in
theorem top_big (w : World) (A : Int) (D k1 k2 : Nat) (r : Value) (hr : Has (fun _ => False) w (Rv A ((D : Nat) : Int) k1 k2) r) (hD : D ≠ 0) (b1 : k1 ≤ 8388608) (b2 : k2 ≤ 8388608) (hT : T32 w) (bN bM : Nat) (eN : Go.bitLen A.natAbs = bN) (eM : Go.bitLen D = bM) (hbN : bN ≤ 67108864) (hbM : bM ≤ 67108864) (b1' : k1 ≤ 1048576) (b2' : k2 ≤ 1048576) (sz : Int) (hsz : ((bN : Nat) : Int) - ((bM : Nat) : Int) = sz) (g : 1024 < sz) :
    Calls Tryz.prog 22 #[r] w (Gives (THREE (IS (.int .u64 1)) (IS (.int .i64 1024)) (IS (.bool false))) w) := by
  refine calls_sta (sl := [(0, (PR (Zv A k1) (Zv (((D : Nat) : Int)) k2)))]) Tryz.func22 rfl Tryz.ntmps22 (by simp) (args_cons rfl (hr) args_nil) ?_
  intro a0 S0
  replace S0 : Sta w 60 [] [(0, (PR (Zv A k1) (Zv (((D : Nat) : Int)) k2))), (0, TB)] (fun _ => False) a0 w := S0.more 0 (tb_has hT)
  refine wp_stmt_seq [.new (.box 26 (PR (Zv A k1) (Zv (((D : Nat) : Int)) k2))), .val (Is (.int .u64 0)), .val (iV 0), kF] [.inl 0] [.inr 1] follows S0 rfl (by kernel_rfl) ?_ ?_
  · refine ⟨⟨⟨⟨trivial, ?_⟩, ?_⟩, ?_⟩, ?_⟩
    · exact owe_box rfl wA rfl (oS 0 0) rfl (fun ρ w h => box_rat (shp_pr shp_zv shp_zv) ρ _ _ w h)
    · exact mC
    · exact mC
    · exact mC
  intro B1 a1 W1 (S1 : Sta w 60 [(1, (.box 26 (PR (Zv A k1) (Zv (((D : Nat) : Int)) k2))))] [(0, TB)] _ _ _)
  refine wp_stmt_seq [.val (Part a1 1 0), .val (Zv A k1), .val (iV ((bN : Nat) : Int)), .val (Part a1 1 2), .val (Zv (((D : Nat) : Int)) k2), .val (iV ((bM : Nat) : Int)), .val (iV sz), .val (iV sz)] [.inr 0] [.inl 7, .inr 0] follows S1 rfl (by kernel_rfl) ?_ ?_
  · repeat' refine And.intro ?_ ?_
    · trivial
    · exact owe_part rfl wA rfl (k := 0) rfl (by kernel_rfl) rfl (fun ρ w b h => part_rat0 ρ _ _ w b 0 h)
    · exact owe_pload rfl wA rfl (oO 0 15) (k := 0) rfl (by kernel_rfl) rfl (fun ρ w b u h1 h2 h3 => pload_num ρ _ _ w b u h1 h2 h3)
    · exact cc1 wA (qO 1 16 rfl) (fresh_is _) (fun w u0 h0 => Gives.cast ((fun w u h1 => g_zbits (by omega) w u ((fun _ _ h => h) _ _ h1)) w u0 h0) (by rw [eN]))
    · exact owe_part rfl wA rfl (k := 0) rfl (by kernel_rfl) rfl (fun ρ w b h => part_rat1 ρ _ _ w b 0 h)
    · exact owe_pload rfl wA rfl (oO 3 18) (k := 0) rfl (by kernel_rfl) rfl (fun ρ w b u h1 h2 h3 => pload_den ρ _ _ w b u h1 h2 h3)
    · exact cc1 wA (qO 4 19 rfl) (fresh_is _) (fun w u0 h0 => Gives.cast ((fun w u h1 => g_zbits (by omega) w u ((fun _ _ h => h) _ _ h1)) w u0 h0) (by rw [Int.natAbs_natCast, eM]))
    · exact b_sub_int wA (oO 2 17) (oO 5 20) (h := ⟨hsz, by omega, by omega⟩)
    · exact mO 6 21
  intro B2 a2 W2 (S2 : Sta w 60 [(1, (.box 26 (PR (Zv A k1) (Zv (((D : Nat) : Int)) k2))))] [(5, iV sz), (0, TB)] _ _ _)
  refine wp_seq ?_
  refine wp_stmt_seq [.val (iV sz), kT] [.inr 0] [.inl 1, .inr 0, .inr 1] follows S2 rfl (by kernel_rfl) ?_ ?_
  · refine ⟨⟨trivial, ?_⟩, ?_⟩
    · exact mS 0 5
    · exact b_gtr_int_t wA (oO 0 22) (opnd_const _) (h := g)
  intro B3 a3 W3 (S3 : Sta w 60 [(1, (.box 26 (PR (Zv A k1) (Zv (((D : Nat) : Int)) k2))))] [(23, bT), (5, iV sz), (0, TB)] _ _ _)
  refine wp_cond_true (S3.bool 0 23 rfl) ?_
  refine wp_stmt_seq [.val (Is (.int .u64 1)), .val (iV 1024), kF] [] [.inl 0, .inl 1, .inl 2, .inr 2] follows S3 rfl (by kernel_rfl) ?_ ?_
  · refine ⟨⟨⟨trivial, ?_⟩, ?_⟩, ?_⟩
    · exact mC
    · exact mC
    · exact mC
  intro B4 a4 W4 (S4 : Sta w 60 [] [(2, Is (.int .u64 1)), (3, iV 1024), (4, bF), (0, TB)] _ _ _)
  refine wp_ret ?_
  refine thenR ?_
  exact end_three S4 rfl (res_tmp S4 0 2 rfl) (res_tmp S4 1 3 rfl) (res_tmp S4 2 4 rfl)
set_option maxHeartbeats 2000000 in
theorem top_0 (w : World) (A : Int) (D k1 k2 : Nat) (r : Value) (hr : Has (fun _ => False) w (Rv A ((D : Nat) : Int) k1 k2) r) (hD : D ≠ 0) (b1 : k1 ≤ 8388608) (b2 : k2 ≤ 8388608) (hT : T32 w) (bN bM : Nat) (eN : Go.bitLen A.natAbs = bN) (eM : Go.bitLen D = bM) (hbN : bN ≤ 67108864) (hbM : bM ≤ 67108864) (b1' : k1 ≤ 1048576) (b2' : k2 ≤ 1048576) (sz : Int) (hsz : ((bN : Nat) : Int) - ((bM : Nat) : Int) = sz) (g : sz ≤ 1024) (m1 : Int) (s : Nat) (hm1 : (53 - sz ≤ 1074 ∧ m1 = 53 - sz) ∨ (1074 ≤ 53 - sz ∧ m1 = 1074)) (hs2 : (0 ≤ m1 ∧ ((s : Nat) : Int) = m1) ∨ (m1 ≤ 0 ∧ ((s : Nat) : Int) = 0)) (hs3 : s ≤ 1074) (Nn q rr : Nat) (hNn : ((A.natAbs : Nat) : Int) * 2 ^ (((s : Nat) : Int)).toNat = ((Nn : Nat) : Int)) (hq : fl ((Nn : Nat) : Int) ((D : Nat) : Int) = ((q : Nat) : Int)) (hrr : rm ((Nn : Nat) : Int) ((D : Nat) : Int) = ((rr : Nat) : Int)) (lA : (digs (((A.natAbs : Nat) : Int)).natAbs).length ≤ 1048576) (lN : (digs (((Nn : Nat) : Int)).natAbs).length ≤ 2097152) (lq : (digs (((q : Nat) : Int)).natAbs).length ≤ 1048576) (lr : (digs (((rr : Nat) : Int)).natAbs).length ≤ 2097152) (nn : Int) (hnn : ((tE ((q : Nat) : Int) : Nat) : Int) - ((s : Nat) : Int) = nn) (htE : tE ((q : Nat) : Int) ≤ 67108864) (hI : tI ((q : Nat) : Int) = false) :
    Calls Tryz.prog 22 #[r] w (Gives (THREE (IS (.int .u64 ((tM ((q : Nat) : Int) : Nat) : Int))) (IS (.int .i64 nn)) (IS (.bool false))) w) := by
  refine calls_sta (sl := [(0, (PR (Zv A k1) (Zv (((D : Nat) : Int)) k2)))]) Tryz.func22 rfl Tryz.ntmps22 (by simp) (args_cons rfl (hr) args_nil) ?_
  intro a0 S0
  replace S0 : Sta w 60 [] [(0, (PR (Zv A k1) (Zv (((D : Nat) : Int)) k2))), (0, TB)] (fun _ => False) a0 w := S0.more 0 (tb_has hT)
  refine wp_stmt_seq [.new (.box 26 (PR (Zv A k1) (Zv (((D : Nat) : Int)) k2))), .val (Is (.int .u64 0)), .val (iV 0), kF] [.inl 0] [.inr 1] follows S0 rfl (by kernel_rfl) ?_ ?_
  · refine ⟨⟨⟨⟨trivial, ?_⟩, ?_⟩, ?_⟩, ?_⟩
    · exact owe_box rfl wA rfl (oS 0 0) rfl (fun ρ w h => box_rat (shp_pr shp_zv shp_zv) ρ _ _ w h)
    · exact mC
    · exact mC
    · exact mC
  intro B1 a1 W1 (S1 : Sta w 60 [(1, (.box 26 (PR (Zv A k1) (Zv (((D : Nat) : Int)) k2))))] [(0, TB)] _ _ _)
  refine wp_stmt_seq [.val (Part a1 1 0), .val (Zv A k1), .val (iV ((bN : Nat) : Int)), .val (Part a1 1 2), .val (Zv (((D : Nat) : Int)) k2), .val (iV ((bM : Nat) : Int)), .val (iV sz), .val (iV sz)] [.inr 0] [.inl 7, .inr 0] follows S1 rfl (by kernel_rfl) ?_ ?_
  · repeat' refine And.intro ?_ ?_
    · trivial
    · exact owe_part rfl wA rfl (k := 0) rfl (by kernel_rfl) rfl (fun ρ w b h => part_rat0 ρ _ _ w b 0 h)
    · exact owe_pload rfl wA rfl (oO 0 15) (k := 0) rfl (by kernel_rfl) rfl (fun ρ w b u h1 h2 h3 => pload_num ρ _ _ w b u h1 h2 h3)
    · exact cc1 wA (qO 1 16 rfl) (fresh_is _) (fun w u0 h0 => Gives.cast ((fun w u h1 => g_zbits (by omega) w u ((fun _ _ h => h) _ _ h1)) w u0 h0) (by rw [eN]))
    · exact owe_part rfl wA rfl (k := 0) rfl (by kernel_rfl) rfl (fun ρ w b h => part_rat1 ρ _ _ w b 0 h)
    · exact owe_pload rfl wA rfl (oO 3 18) (k := 0) rfl (by kernel_rfl) rfl (fun ρ w b u h1 h2 h3 => pload_den ρ _ _ w b u h1 h2 h3)
    · exact cc1 wA (qO 4 19 rfl) (fresh_is _) (fun w u0 h0 => Gives.cast ((fun w u h1 => g_zbits (by omega) w u ((fun _ _ h => h) _ _ h1)) w u0 h0) (by rw [Int.natAbs_natCast, eM]))
    · exact b_sub_int wA (oO 2 17) (oO 5 20) (h := ⟨hsz, by omega, by omega⟩)
    · exact mO 6 21
  intro B2 a2 W2 (S2 : Sta w 60 [(1, (.box 26 (PR (Zv A k1) (Zv (((D : Nat) : Int)) k2))))] [(5, iV sz), (0, TB)] _ _ _)
  refine wp_seq ?_
  refine wp_stmt_seq [.val (iV sz), kF] [.inr 0] [.inl 1, .inr 0, .inr 1] follows S2 rfl (by kernel_rfl) ?_ ?_
  · refine ⟨⟨trivial, ?_⟩, ?_⟩
    · exact mS 0 5
    · exact b_gtr_int_f wA (oO 0 22) (opnd_const _) (h := g)
  intro B3 a3 W3 (S3 : Sta w 60 [(1, (.box 26 (PR (Zv A k1) (Zv (((D : Nat) : Int)) k2))))] [(23, bF), (5, iV sz), (0, TB)] _ _ _)
  refine wp_cond_false (S3.bool 0 23 rfl) ?_
  refine wp_skip ?_
  refine thenN ?_
  refine wp_stmt_seq [.val (iV sz), .val (iV (53 - sz)), .val (iV m1), .val (iV ((s : Nat) : Int)), .val (iV ((s : Nat) : Int))] [.inr 0] [.inl 4, .inr 2] follows S3 rfl (by kernel_rfl) ?_ ?_
  · refine ⟨⟨⟨⟨⟨trivial, ?_⟩, ?_⟩, ?_⟩, ?_⟩, ?_⟩
    · exact mS 1 5
    · exact b_sub_int wA (opnd_const _) (oO 0 24) (h := ⟨rfl, by omega, by omega⟩)
    · exact owe_two rfl wA rfl (oO 1 25) (opnd_const _) rfl (fun ρ w h1 h2 => run_min_int ρ _ _ _ w _ _ _ hm1 h1 h2)
    · exact owe_max rfl wA rfl (opnd_const _) (oO 2 26) rfl (fun ρ w h1 h2 => run_max_int ρ _ _ _ w _ _ _ hs2 h1 h2)
    · exact mO 3 27
  intro B4 a4 W4 (S4 : Sta w 60 [(1, (.box 26 (PR (Zv A k1) (Zv (((D : Nat) : Int)) k2))))] [(6, iV ((s : Nat) : Int)), (0, TB)] _ _ _)
  refine wp_stmt_seq [.val (Part a4 1 0), .val (Zv A k1), .val ((ZN (((A.natAbs : Nat) : Int))) w.heap.size), .val (iV ((s : Nat) : Int)), .val ((TWO (ZN (((Nn : Nat) : Int))) (IS (.int .i64 0))) w.heap.size), .val ((TWO (ZN (((Nn : Nat) : Int))) (IS (.int .i64 0))) w.heap.size), .val ((ZN (((Nn : Nat) : Int))) w.heap.size), .val (iV 0), .new (.box 24 zI), .put (.inr 8) (.box 24 ((ZN (((Nn : Nat) : Int))) w.heap.size)), .val (iV 0)] [.inr 0, .inl 8] [.inr 0, .inr 1] follows S4 rfl (by kernel_rfl) ?_ ?_
  · repeat' refine And.intro ?_ ?_
    · trivial
    · exact owe_part rfl wA rfl (k := 0) rfl (by kernel_rfl) rfl (fun ρ w b h => part_rat0 ρ _ _ w b 0 h)
    · exact owe_pload rfl wA rfl (oO 0 29) (k := 0) rfl (by kernel_rfl) rfl (fun ρ w b u h1 h2 h3 => pload_num ρ _ _ w b u h1 h2 h3)
    · exact cc1 wA (qO 1 30 rfl) (fresh_zn _) (fun w u h1 => g_zabs (by omega) w u ((fun _ _ h => h) _ _ h1))
    · exact mS 0 6
    · exact cc2 wA (qO 2 31 rfl) (qO 3 32 rfl) (fresh_two (fresh_zn _) (fresh_is _)) (fun w u0 u1 h0 h1 => Gives.cast ((fun w u v h1 h2 => g_zshift0 (by omega) (by omega) (by omega) w u v ((zn_zv lA) _ _ h1) h2) w u0 u1 h0 h1) (by rw [hNn]))
    · exact mO 4 33
    · exact e20 wA (oO 5 28)
    · exact e21 wA (oO 5 28)
    · exact owe_new rfl wA rfl rfl (fun ρ w => alloc_int ρ _ w)
    · exact owe_put 8 rfl wA rfl (by kernel_rfl) rfl (oO 6 34) (stores_of strct_int shp_z0 shp_zn) rfl
    · exact mO 7 35
  intro B5 a5 W5 (S5 : Sta w 60 [(1, (.box 26 (PR (Zv A k1) (Zv (((D : Nat) : Int)) k2)))), (7, (.box 24 ((ZN (((Nn : Nat) : Int))) w.heap.size)))] [(6, iV ((s : Nat) : Int)), (0, TB)] _ _ _)
  refine wp_stmt_seq [.val ((ZN (((Nn : Nat) : Int))) w.heap.size), .val (Part a5 1 2), .val (Zv (((D : Nat) : Int)) k2), .val ((THREE (ZN (((q : Nat) : Int))) (ZN (((rr : Nat) : Int))) (IS (.int .i64 0))) w.heap.size), .val ((THREE (ZN (((q : Nat) : Int))) (ZN (((rr : Nat) : Int))) (IS (.int .i64 0))) w.heap.size), .val ((ZN (((q : Nat) : Int))) w.heap.size), .val ((ZN (((rr : Nat) : Int))) w.heap.size), .val (iV 0), .new (.box 24 zI), .new (.box 24 zI), .put (.inr 8) (.box 24 ((ZN (((q : Nat) : Int))) w.heap.size)), .put (.inr 9) (.box 24 ((ZN (((rr : Nat) : Int))) w.heap.size)), .val (iV 0)] [.inl 8, .inl 9] [.inr 0, .inr 1] follows S5 rfl (by kernel_rfl) ?_ ?_
  · repeat' refine And.intro ?_ ?_
    · trivial
    · exact lod 1 wA (loads_of strct_int shp_zn)
    · exact owe_part rfl wA rfl (k := 0) rfl (by kernel_rfl) rfl (fun ρ w b h => part_rat1 ρ _ _ w b 0 h)
    · exact owe_pload rfl wA rfl (oO 1 38) (k := 0) rfl (by kernel_rfl) rfl (fun ρ w b u h1 h2 h3 => pload_den ρ _ _ w b u h1 h2 h3)
    · exact cc2 wA (qO 0 37 rfl) (qO 2 39 rfl) (fresh_three (fresh_zn _) (fresh_zn _) (fresh_is _)) (fun w u0 u1 h0 h1 => Gives.cast ((fun w u v h1 h2 => g_zfloor (by omega) (by omega) (by omega) w u v ((zn_zv lN) _ _ h1) ((fun _ _ h => h) _ _ h2)) w u0 u1 h0 h1) (by rw [hq, hrr]))
    · exact mO 3 40
    · exact e30 wA (oO 4 36)
    · exact e31 wA (oO 4 36)
    · exact e32 wA (oO 4 36)
    · exact owe_new rfl wA rfl rfl (fun ρ w => alloc_int ρ _ w)
    · exact owe_new rfl wA rfl rfl (fun ρ w => alloc_int ρ _ w)
    · exact owe_put 8 rfl wA rfl (by kernel_rfl) rfl (oO 5 41) (stores_of strct_int shp_z0 shp_zn) rfl
    · exact owe_put 9 rfl wA rfl (by kernel_rfl) rfl (oO 6 42) (stores_of strct_int shp_z0 shp_zn) rfl
    · exact mO 7 43
  intro B6 a6 W6 (S6 : Sta w 60 [(9, (.box 24 ((ZN (((q : Nat) : Int))) w.heap.size))), (10, (.box 24 ((ZN (((rr : Nat) : Int))) w.heap.size)))] [(6, iV ((s : Nat) : Int)), (0, TB)] _ _ _)
  refine wp_stmt_seq [.val ((ZN (((q : Nat) : Int))) w.heap.size), .val ((THREE (IS (.int .u64 ((tM ((q : Nat) : Int) : Nat) : Int))) (IS (.int .i64 ((tE ((q : Nat) : Int) : Nat) : Int))) (IS (.bool false))) w.heap.size), .val ((THREE (IS (.int .u64 ((tM ((q : Nat) : Int) : Nat) : Int))) (IS (.int .i64 ((tE ((q : Nat) : Int) : Nat) : Int))) (IS (.bool false))) w.heap.size), .val (Is (.int .u64 ((tM ((q : Nat) : Int) : Nat) : Int))), .val (Is (.int .i64 ((tE ((q : Nat) : Int) : Nat) : Int))), kF, .val (Is (.int .u64 ((tM ((q : Nat) : Int) : Nat) : Int))), .val (Is (.int .i64 ((tE ((q : Nat) : Int) : Nat) : Int))), kF] [.inr 1] [.inl 6, .inl 7, .inl 8, .inr 0, .inr 1] follows S6 rfl (by kernel_rfl) ?_ ?_
  · repeat' refine And.intro ?_ ?_
    · trivial
    · exact lod 0 wA (loads_of strct_int shp_zn)
    · exact owe_call1T rfl wA rfl (oO 0 45) (oS 1 0) (fresh_three (fresh_is _) (fresh_is _) (fresh_is _)) rfl (fun args w => by go_simp) (fun w u hT h1 => g_ztopI (by omega) hI w u hT ((zn_zv lq) _ _ h1))
    · exact mO 1 46
    · exact e30 wA (oO 2 44)
    · exact e31 wA (oO 2 44)
    · exact e32 wA (oO 2 44)
    · exact mO 3 47
    · exact mO 4 48
    · exact mO 5 49
  intro B7 a7 W7 (S7 : Sta w 60 [(10, (.box 24 ((ZN (((rr : Nat) : Int))) w.heap.size)))] [(12, (Is (.int .u64 ((tM ((q : Nat) : Int) : Nat) : Int)))), (13, (Is (.int .i64 ((tE ((q : Nat) : Int) : Nat) : Int)))), (14, bF), (6, iV ((s : Nat) : Int)), (0, TB)] _ _ _)
  refine wp_stmt_seq [.val (Is (.int .u64 ((tM ((q : Nat) : Int) : Nat) : Int))), .val (Is (.int .i64 ((tE ((q : Nat) : Int) : Nat) : Int))), .val (iV ((s : Nat) : Int)), .val (iV nn), kF, kF, .off, .off, .off, kF, .val (Is (.int .u64 ((tM ((q : Nat) : Int) : Nat) : Int))), .val (iV nn), kF] [] [.inl 10, .inl 11, .inl 12, .inr 4] follows S7 rfl (by kernel_rfl) ?_ ?_
  · repeat' refine And.intro ?_ ?_
    · trivial
    · exact mS 0 12
    · exact mS 1 13
    · exact mS 3 6
    · exact b_sub_int wA (oO 1 51) (oO 2 52) (h := ⟨hnn, by omega, by omega⟩)
    · exact mS 2 14
    · exact mO 4 54
    · exact oF 5 55
    · exact oF 5 55
    · exact oF 5 55
    · exact pF wA (oO 5 55) (opnd_const _)
    · exact mO 0 50
    · exact mO 3 53
    · exact mO 9 59
  intro B8 a8 W8 (S8 : Sta w 60 [] [(2, (Is (.int .u64 ((tM ((q : Nat) : Int) : Nat) : Int)))), (3, iV nn), (4, bF), (0, TB)] _ _ _)
  refine wp_ret ?_
  exact end_three S8 rfl (res_tmp S8 0 2 rfl) (res_tmp S8 1 3 rfl) (res_tmp S8 2 4 rfl)
set_option maxHeartbeats 2000000 in
theorem top_1 (w : World) (A : Int) (D k1 k2 : Nat) (r : Value) (hr : Has (fun _ => False) w (Rv A ((D : Nat) : Int) k1 k2) r) (hD : D ≠ 0) (b1 : k1 ≤ 8388608) (b2 : k2 ≤ 8388608) (hT : T32 w) (bN bM : Nat) (eN : Go.bitLen A.natAbs = bN) (eM : Go.bitLen D = bM) (hbN : bN ≤ 67108864) (hbM : bM ≤ 67108864) (b1' : k1 ≤ 1048576) (b2' : k2 ≤ 1048576) (sz : Int) (hsz : ((bN : Nat) : Int) - ((bM : Nat) : Int) = sz) (g : sz ≤ 1024) (m1 : Int) (s : Nat) (hm1 : (53 - sz ≤ 1074 ∧ m1 = 53 - sz) ∨ (1074 ≤ 53 - sz ∧ m1 = 1074)) (hs2 : (0 ≤ m1 ∧ ((s : Nat) : Int) = m1) ∨ (m1 ≤ 0 ∧ ((s : Nat) : Int) = 0)) (hs3 : s ≤ 1074) (Nn q rr : Nat) (hNn : ((A.natAbs : Nat) : Int) * 2 ^ (((s : Nat) : Int)).toNat = ((Nn : Nat) : Int)) (hq : fl ((Nn : Nat) : Int) ((D : Nat) : Int) = ((q : Nat) : Int)) (hrr : rm ((Nn : Nat) : Int) ((D : Nat) : Int) = ((rr : Nat) : Int)) (lA : (digs (((A.natAbs : Nat) : Int)).natAbs).length ≤ 1048576) (lN : (digs (((Nn : Nat) : Int)).natAbs).length ≤ 2097152) (lq : (digs (((q : Nat) : Int)).natAbs).length ≤ 1048576) (lr : (digs (((rr : Nat) : Int)).natAbs).length ≤ 2097152) (nn : Int) (hnn : ((tE ((q : Nat) : Int) : Nat) : Int) - ((s : Nat) : Int) = nn) (htE : tE ((q : Nat) : Int) ≤ 67108864) (hI : tI ((q : Nat) : Int) = true) :
    Calls Tryz.prog 22 #[r] w (Gives (THREE (IS (.int .u64 ((tM ((q : Nat) : Int) : Nat) : Int))) (IS (.int .i64 nn)) (IS (.bool (decide (rr = 0))))) w) := by
  refine calls_sta (sl := [(0, (PR (Zv A k1) (Zv (((D : Nat) : Int)) k2)))]) Tryz.func22 rfl Tryz.ntmps22 (by simp) (args_cons rfl (hr) args_nil) ?_
  intro a0 S0
  replace S0 : Sta w 60 [] [(0, (PR (Zv A k1) (Zv (((D : Nat) : Int)) k2))), (0, TB)] (fun _ => False) a0 w := S0.more 0 (tb_has hT)
  refine wp_stmt_seq [.new (.box 26 (PR (Zv A k1) (Zv (((D : Nat) : Int)) k2))), .val (Is (.int .u64 0)), .val (iV 0), kF] [.inl 0] [.inr 1] follows S0 rfl (by kernel_rfl) ?_ ?_
  · refine ⟨⟨⟨⟨trivial, ?_⟩, ?_⟩, ?_⟩, ?_⟩
    · exact owe_box rfl wA rfl (oS 0 0) rfl (fun ρ w h => box_rat (shp_pr shp_zv shp_zv) ρ _ _ w h)
    · exact mC
    · exact mC
    · exact mC
  intro B1 a1 W1 (S1 : Sta w 60 [(1, (.box 26 (PR (Zv A k1) (Zv (((D : Nat) : Int)) k2))))] [(0, TB)] _ _ _)
  refine wp_stmt_seq [.val (Part a1 1 0), .val (Zv A k1), .val (iV ((bN : Nat) : Int)), .val (Part a1 1 2), .val (Zv (((D : Nat) : Int)) k2), .val (iV ((bM : Nat) : Int)), .val (iV sz), .val (iV sz)] [.inr 0] [.inl 7, .inr 0] follows S1 rfl (by kernel_rfl) ?_ ?_
  · repeat' refine And.intro ?_ ?_
    · trivial
    · exact owe_part rfl wA rfl (k := 0) rfl (by kernel_rfl) rfl (fun ρ w b h => part_rat0 ρ _ _ w b 0 h)
    · exact owe_pload rfl wA rfl (oO 0 15) (k := 0) rfl (by kernel_rfl) rfl (fun ρ w b u h1 h2 h3 => pload_num ρ _ _ w b u h1 h2 h3)
    · exact cc1 wA (qO 1 16 rfl) (fresh_is _) (fun w u0 h0 => Gives.cast ((fun w u h1 => g_zbits (by omega) w u ((fun _ _ h => h) _ _ h1)) w u0 h0) (by rw [eN]))
    · exact owe_part rfl wA rfl (k := 0) rfl (by kernel_rfl) rfl (fun ρ w b h => part_rat1 ρ _ _ w b 0 h)
    · exact owe_pload rfl wA rfl (oO 3 18) (k := 0) rfl (by kernel_rfl) rfl (fun ρ w b u h1 h2 h3 => pload_den ρ _ _ w b u h1 h2 h3)
    · exact cc1 wA (qO 4 19 rfl) (fresh_is _) (fun w u0 h0 => Gives.cast ((fun w u h1 => g_zbits (by omega) w u ((fun _ _ h => h) _ _ h1)) w u0 h0) (by rw [Int.natAbs_natCast, eM]))
    · exact b_sub_int wA (oO 2 17) (oO 5 20) (h := ⟨hsz, by omega, by omega⟩)
    · exact mO 6 21
  intro B2 a2 W2 (S2 : Sta w 60 [(1, (.box 26 (PR (Zv A k1) (Zv (((D : Nat) : Int)) k2))))] [(5, iV sz), (0, TB)] _ _ _)
  refine wp_seq ?_
  refine wp_stmt_seq [.val (iV sz), kF] [.inr 0] [.inl 1, .inr 0, .inr 1] follows S2 rfl (by kernel_rfl) ?_ ?_
  · refine ⟨⟨trivial, ?_⟩, ?_⟩
    · exact mS 0 5
    · exact b_gtr_int_f wA (oO 0 22) (opnd_const _) (h := g)
  intro B3 a3 W3 (S3 : Sta w 60 [(1, (.box 26 (PR (Zv A k1) (Zv (((D : Nat) : Int)) k2))))] [(23, bF), (5, iV sz), (0, TB)] _ _ _)
  refine wp_cond_false (S3.bool 0 23 rfl) ?_
  refine wp_skip ?_
  refine thenN ?_
  refine wp_stmt_seq [.val (iV sz), .val (iV (53 - sz)), .val (iV m1), .val (iV ((s : Nat) : Int)), .val (iV ((s : Nat) : Int))] [.inr 0] [.inl 4, .inr 2] follows S3 rfl (by kernel_rfl) ?_ ?_
  · refine ⟨⟨⟨⟨⟨trivial, ?_⟩, ?_⟩, ?_⟩, ?_⟩, ?_⟩
    · exact mS 1 5
    · exact b_sub_int wA (opnd_const _) (oO 0 24) (h := ⟨rfl, by omega, by omega⟩)
    · exact owe_two rfl wA rfl (oO 1 25) (opnd_const _) rfl (fun ρ w h1 h2 => run_min_int ρ _ _ _ w _ _ _ hm1 h1 h2)
    · exact owe_max rfl wA rfl (opnd_const _) (oO 2 26) rfl (fun ρ w h1 h2 => run_max_int ρ _ _ _ w _ _ _ hs2 h1 h2)
    · exact mO 3 27
  intro B4 a4 W4 (S4 : Sta w 60 [(1, (.box 26 (PR (Zv A k1) (Zv (((D : Nat) : Int)) k2))))] [(6, iV ((s : Nat) : Int)), (0, TB)] _ _ _)
  refine wp_stmt_seq [.val (Part a4 1 0), .val (Zv A k1), .val ((ZN (((A.natAbs : Nat) : Int))) w.heap.size), .val (iV ((s : Nat) : Int)), .val ((TWO (ZN (((Nn : Nat) : Int))) (IS (.int .i64 0))) w.heap.size), .val ((TWO (ZN (((Nn : Nat) : Int))) (IS (.int .i64 0))) w.heap.size), .val ((ZN (((Nn : Nat) : Int))) w.heap.size), .val (iV 0), .new (.box 24 zI), .put (.inr 8) (.box 24 ((ZN (((Nn : Nat) : Int))) w.heap.size)), .val (iV 0)] [.inr 0, .inl 8] [.inr 0, .inr 1] follows S4 rfl (by kernel_rfl) ?_ ?_
  · repeat' refine And.intro ?_ ?_
    · trivial
    · exact owe_part rfl wA rfl (k := 0) rfl (by kernel_rfl) rfl (fun ρ w b h => part_rat0 ρ _ _ w b 0 h)
    · exact owe_pload rfl wA rfl (oO 0 29) (k := 0) rfl (by kernel_rfl) rfl (fun ρ w b u h1 h2 h3 => pload_num ρ _ _ w b u h1 h2 h3)
    · exact cc1 wA (qO 1 30 rfl) (fresh_zn _) (fun w u h1 => g_zabs (by omega) w u ((fun _ _ h => h) _ _ h1))
    · exact mS 0 6
    · exact cc2 wA (qO 2 31 rfl) (qO 3 32 rfl) (fresh_two (fresh_zn _) (fresh_is _)) (fun w u0 u1 h0 h1 => Gives.cast ((fun w u v h1 h2 => g_zshift0 (by omega) (by omega) (by omega) w u v ((zn_zv lA) _ _ h1) h2) w u0 u1 h0 h1) (by rw [hNn]))
    · exact mO 4 33
    · exact e20 wA (oO 5 28)
    · exact e21 wA (oO 5 28)
    · exact owe_new rfl wA rfl rfl (fun ρ w => alloc_int ρ _ w)
    · exact owe_put 8 rfl wA rfl (by kernel_rfl) rfl (oO 6 34) (stores_of strct_int shp_z0 shp_zn) rfl
    · exact mO 7 35
  intro B5 a5 W5 (S5 : Sta w 60 [(1, (.box 26 (PR (Zv A k1) (Zv (((D : Nat) : Int)) k2)))), (7, (.box 24 ((ZN (((Nn : Nat) : Int))) w.heap.size)))] [(6, iV ((s : Nat) : Int)), (0, TB)] _ _ _)
  refine wp_stmt_seq [.val ((ZN (((Nn : Nat) : Int))) w.heap.size), .val (Part a5 1 2), .val (Zv (((D : Nat) : Int)) k2), .val ((THREE (ZN (((q : Nat) : Int))) (ZN (((rr : Nat) : Int))) (IS (.int .i64 0))) w.heap.size), .val ((THREE (ZN (((q : Nat) : Int))) (ZN (((rr : Nat) : Int))) (IS (.int .i64 0))) w.heap.size), .val ((ZN (((q : Nat) : Int))) w.heap.size), .val ((ZN (((rr : Nat) : Int))) w.heap.size), .val (iV 0), .new (.box 24 zI), .new (.box 24 zI), .put (.inr 8) (.box 24 ((ZN (((q : Nat) : Int))) w.heap.size)), .put (.inr 9) (.box 24 ((ZN (((rr : Nat) : Int))) w.heap.size)), .val (iV 0)] [.inl 8, .inl 9] [.inr 0, .inr 1] follows S5 rfl (by kernel_rfl) ?_ ?_
  · repeat' refine And.intro ?_ ?_
    · trivial
    · exact lod 1 wA (loads_of strct_int shp_zn)
    · exact owe_part rfl wA rfl (k := 0) rfl (by kernel_rfl) rfl (fun ρ w b h => part_rat1 ρ _ _ w b 0 h)
    · exact owe_pload rfl wA rfl (oO 1 38) (k := 0) rfl (by kernel_rfl) rfl (fun ρ w b u h1 h2 h3 => pload_den ρ _ _ w b u h1 h2 h3)
    · exact cc2 wA (qO 0 37 rfl) (qO 2 39 rfl) (fresh_three (fresh_zn _) (fresh_zn _) (fresh_is _)) (fun w u0 u1 h0 h1 => Gives.cast ((fun w u v h1 h2 => g_zfloor (by omega) (by omega) (by omega) w u v ((zn_zv lN) _ _ h1) ((fun _ _ h => h) _ _ h2)) w u0 u1 h0 h1) (by rw [hq, hrr]))
    · exact mO 3 40
    · exact e30 wA (oO 4 36)
    · exact e31 wA (oO 4 36)
    · exact e32 wA (oO 4 36)
    · exact owe_new rfl wA rfl rfl (fun ρ w => alloc_int ρ _ w)
    · exact owe_new rfl wA rfl rfl (fun ρ w => alloc_int ρ _ w)
    · exact owe_put 8 rfl wA rfl (by kernel_rfl) rfl (oO 5 41) (stores_of strct_int shp_z0 shp_zn) rfl
    · exact owe_put 9 rfl wA rfl (by kernel_rfl) rfl (oO 6 42) (stores_of strct_int shp_z0 shp_zn) rfl
    · exact mO 7 43
  intro B6 a6 W6 (S6 : Sta w 60 [(9, (.box 24 ((ZN (((q : Nat) : Int))) w.heap.size))), (10, (.box 24 ((ZN (((rr : Nat) : Int))) w.heap.size)))] [(6, iV ((s : Nat) : Int)), (0, TB)] _ _ _)
  refine wp_stmt_seq [.val ((ZN (((q : Nat) : Int))) w.heap.size), .val ((THREE (IS (.int .u64 ((tM ((q : Nat) : Int) : Nat) : Int))) (IS (.int .i64 ((tE ((q : Nat) : Int) : Nat) : Int))) (IS (.bool true))) w.heap.size), .val ((THREE (IS (.int .u64 ((tM ((q : Nat) : Int) : Nat) : Int))) (IS (.int .i64 ((tE ((q : Nat) : Int) : Nat) : Int))) (IS (.bool true))) w.heap.size), .val (Is (.int .u64 ((tM ((q : Nat) : Int) : Nat) : Int))), .val (Is (.int .i64 ((tE ((q : Nat) : Int) : Nat) : Int))), kT, .val (Is (.int .u64 ((tM ((q : Nat) : Int) : Nat) : Int))), .val (Is (.int .i64 ((tE ((q : Nat) : Int) : Nat) : Int))), kT] [.inr 1] [.inl 6, .inl 7, .inl 8, .inr 0, .inr 1] follows S6 rfl (by kernel_rfl) ?_ ?_
  · repeat' refine And.intro ?_ ?_
    · trivial
    · exact lod 0 wA (loads_of strct_int shp_zn)
    · exact owe_call1T rfl wA rfl (oO 0 45) (oS 1 0) (fresh_three (fresh_is _) (fresh_is _) (fresh_is _)) rfl (fun args w => by go_simp) (fun w u hT h1 => g_ztopI (by omega) hI w u hT ((zn_zv lq) _ _ h1))
    · exact mO 1 46
    · exact e30 wA (oO 2 44)
    · exact e31 wA (oO 2 44)
    · exact e32 wA (oO 2 44)
    · exact mO 3 47
    · exact mO 4 48
    · exact mO 5 49
  intro B7 a7 W7 (S7 : Sta w 60 [(10, (.box 24 ((ZN (((rr : Nat) : Int))) w.heap.size)))] [(12, (Is (.int .u64 ((tM ((q : Nat) : Int) : Nat) : Int)))), (13, (Is (.int .i64 ((tE ((q : Nat) : Int) : Nat) : Int)))), (14, bT), (6, iV ((s : Nat) : Int)), (0, TB)] _ _ _)
  refine wp_stmt_seq [.val (Is (.int .u64 ((tM ((q : Nat) : Int) : Nat) : Int))), .val (Is (.int .i64 ((tE ((q : Nat) : Int) : Nat) : Int))), .val (iV ((s : Nat) : Int)), .val (iV nn), kT, kT, .val ((ZN (((rr : Nat) : Int))) w.heap.size), .val (Is (.int .i64 (((rr : Nat) : Int)).sign)), .val (Is (.bool (decide (rr = 0)))), .val (Is (.bool (decide (rr = 0)))), .val (Is (.int .u64 ((tM ((q : Nat) : Int) : Nat) : Int))), .val (iV nn), .val (Is (.bool (decide (rr = 0))))] [] [.inl 10, .inl 11, .inl 12, .inr 4] follows S7 rfl (by kernel_rfl) ?_ ?_
  · repeat' refine And.intro ?_ ?_
    · trivial
    · exact mS 0 12
    · exact mS 1 13
    · exact mS 3 6
    · exact b_sub_int wA (oO 1 51) (oO 2 52) (h := ⟨hnn, by omega, by omega⟩)
    · exact mS 2 14
    · exact mO 4 54
    · exact lod 0 (wI 5 55) (loads_of strct_int shp_zn)
    · exact cc1 (wI 5 55) (qO 6 56 rfl) (fresh_is _) (fun w u h1 => g_zsgn (by omega) w u ((zn_zv lr) _ _ h1))
    · exact owe_bin rfl (wI 5 55) rfl (oO 7 57) (opnd_const _) rfl (fun ρ w h1 h2 => by exact run_sg0 ρ _ _ _ w rr h1 h2)
    · exact pT wA (oO 5 55) (oO 8 58)
    · exact mO 0 50
    · exact mO 3 53
    · exact mO 9 59
  intro B8 a8 W8 (S8 : Sta w 60 [] [(2, (Is (.int .u64 ((tM ((q : Nat) : Int) : Nat) : Int)))), (3, iV nn), (4, Is (.bool (decide (rr = 0)))), (0, TB)] _ _ _)
  refine wp_ret ?_
  exact end_three S8 rfl (res_tmp S8 0 2 rfl) (res_tmp S8 1 3 rfl) (res_tmp S8 2 4 rfl)
set_option maxHeartbeats 400000 in
theorem imayT (w : World) (A : Int) (D k1 k2 : Nat) (r : Value) (hr : Has (fun _ => False) w (Rv A ((D : Nat) : Int) k1 k2) r) (hD : D ≠ 0) (b1 : k1 ≤ 8388608) (b2 : k2 ≤ 8388608) :
    Calls Tryz.prog 21 #[r] w (Gives (IS (.bool true)) w) := by
  refine calls_sta (sl := [(0, (PR (Zv A k1) (Zv (((D : Nat) : Int)) k2)))]) Tryz.func21 rfl Tryz.ntmps21 (by simp) (args_cons rfl (hr) args_nil) ?_
  intro a0 S0
  refine wp_stmt_seq [.new (.box 26 (PR (Zv A k1) (Zv (((D : Nat) : Int)) k2))), kF] [.inl 0] [] follows S0 rfl (by kernel_rfl) ?_ ?_
  · refine ⟨⟨trivial, ?_⟩, ?_⟩
    · exact owe_box rfl wA rfl (oS 0 0) rfl (fun ρ w h => box_rat (shp_pr shp_zv shp_zv) ρ _ _ w h)
    · exact mC
  intro B1 a1 W1 (S1 : Sta w 7 [(1, (.box 26 (PR (Zv A k1) (Zv (((D : Nat) : Int)) k2))))] [] _ _ _)
  refine wp_stmt_seq [.val (Part a1 1 2), .val (Zv (((D : Nat) : Int)) k2), .val (Is (.int .i64 (((D : Nat) : Int)).sign)), kT, kT] [] [.inl 4] follows S1 rfl (by kernel_rfl) ?_ ?_
  · refine ⟨⟨⟨⟨⟨trivial, ?_⟩, ?_⟩, ?_⟩, ?_⟩, ?_⟩
    · exact owe_part rfl wA rfl (k := 0) rfl (by kernel_rfl) rfl (fun ρ w b h => part_rat1 ρ _ _ w b 0 h)
    · exact owe_pload rfl wA rfl (oO 0 3) (k := 0) rfl (by kernel_rfl) rfl (fun ρ w b u h1 h2 h3 => pload_den ρ _ _ w b u h1 h2 h3)
    · exact cc1 wA (qO 1 4 rfl) (fresh_is _) (fun w u h1 => g_zsgn (by omega) w u ((fun _ _ h => h) _ _ h1))
    · exact b_gtr_int_t wA (oO 2 5) (opnd_const _) (h := sgn_pos hD)
    · exact mO 3 6
  intro B2 a2 W2 (S2 : Sta w 7 [] [(2, bT)] _ _ _)
  refine wp_ret ?_
  exact end_one S2 rfl (res_tmp S2 0 2 rfl)
set_option maxHeartbeats 400000 in
theorem ofrat_w (w : World) (A : Int) (D k1 k2 : Nat) (r : Value) (hr : Has (fun _ => False) w (Rv A ((D : Nat) : Int) k1 k2) r) (hD : D ≠ 0) (b1 : k1 ≤ 8388608) (b2 : k2 ≤ 8388608) (hT : T32 w) (m1 : Nat) (n1 : Int) (P r1 : Nat) (a : Bool) (hr1 : r1 < 18446744073709551616) (hp1 : plc r1 = some ((min P 9218868437227405312 : Nat) : Int)) (hC : ∀ w, Calls Tryz.prog 18 #[.float .f64 (floatOfInt .f64 ((m1 : Nat) : Int)), .int .i64 n1] w (Gives (IS (.float .f64 r1)) w)) (ct : ∀ w u, T32 w → Rv A ((D : Nat) : Int) k1 k2 u w → Calls Tryz.prog 22 #[u] w (Gives (THREE (IS (.int .u64 ((m1 : Nat) : Int))) (IS (.int .i64 n1)) (IS (.bool a))) w)) :
    Calls Tryz.prog 7 #[r] w (Gives (TWO (IVN (some (ivL (ng A) (abR P) (abA P a))) (some (ivH (ng A) (abR P) (abA P a)))) (IS (.int .i64 0))) w) := by
  refine calls_sta (sl := [(0, (PR (Zv A k1) (Zv (((D : Nat) : Int)) k2)))]) Tryz.func7 rfl Tryz.ntmps7 (by simp) (args_cons rfl (hr) args_nil) ?_
  intro a0 S0
  replace S0 : Sta w 25 [] [(0, (PR (Zv A k1) (Zv (((D : Nat) : Int)) k2))), (0, TB)] (fun _ => False) a0 w := S0.more 0 (tb_has hT)
  refine wp_stmt_seq [.new (.box 26 (PR (Zv A k1) (Zv (((D : Nat) : Int)) k2))), .new (.box 34 (Is (.agg #[.float .f64 0, .float .f64 0]))), .val (iV 0)] [.inl 0, .inl 1] [.inr 1] follows S0 rfl (by kernel_rfl) ?_ ?_
  · refine ⟨⟨⟨trivial, ?_⟩, ?_⟩, ?_⟩
    · exact owe_box rfl wA rfl (oS 0 0) rfl (fun ρ w h => box_rat (shp_pr shp_zv shp_zv) ρ _ _ w h)
    · exact owe_new rfl wA rfl rfl (fun ρ w => alloc_ival ρ _ w)
    · exact mC
  intro B1 a1 W1 (S1 : Sta w 25 [(1, (.box 26 (PR (Zv A k1) (Zv (((D : Nat) : Int)) k2)))), (2, (.box 34 (Is (.agg #[.float .f64 0, .float .f64 0]))))] [(0, TB)] _ _ _)
  refine wp_seq ?_
  refine wp_stmt_seq [.val (PR (Zv A k1) (Zv (((D : Nat) : Int)) k2)), kT, kF] [.inr 0, .inr 1] [.inl 2, .inr 0] follows S1 rfl (by kernel_rfl) ?_ ?_
  · refine ⟨⟨⟨trivial, ?_⟩, ?_⟩, ?_⟩
    · exact lod 0 wA (loads_of strct_rat (shp_pr shp_zv shp_zv))
    · exact cc1 wA (qO 0 7 rfl) (fresh_is _) (fun w u h1 => imayT w A D k1 k2 u (rv_has h1) hD b1 b2)
    · exact b_not wA (oO 1 8)
  intro B2 a2 W2 (S2 : Sta w 25 [(1, (.box 26 (PR (Zv A k1) (Zv (((D : Nat) : Int)) k2)))), (2, (.box 34 (Is (.agg #[.float .f64 0, .float .f64 0]))))] [(9, bF), (0, TB)] _ _ _)
  refine wp_cond_false (S2.bool 0 9 rfl) ?_
  refine wp_skip ?_
  refine thenN ?_
  refine wp_stmt_seq [.val (PR (Zv A k1) (Zv (((D : Nat) : Int)) k2)), .val ((THREE (IS (.int .u64 ((m1 : Nat) : Int))) (IS (.int .i64 n1)) (IS (.bool a))) w.heap.size), .val ((THREE (IS (.int .u64 ((m1 : Nat) : Int))) (IS (.int .i64 n1)) (IS (.bool a))) w.heap.size), .val (Is (.int .u64 ((m1 : Nat) : Int))), .val (iV n1), .val (Is (.bool a)), .val (Is (.int .u64 ((m1 : Nat) : Int))), .val (iV n1), .val (Is (.bool a))] [.inr 0, .inr 1] [.inl 6, .inl 7, .inl 8, .inr 1] follows S2 rfl (by kernel_rfl) ?_ ?_
  · repeat' refine And.intro ?_ ?_
    · trivial
    · exact lod 0 wA (loads_of strct_rat (shp_pr shp_zv shp_zv))
    · exact owe_call1T rfl wA rfl (oO 0 12) (oS 1 0) (fresh_three (fresh_is _) (fresh_is _) (fresh_is _)) rfl (fun args w => by go_simp) ct
    · exact mO 1 13
    · exact e30 wA (oO 2 11)
    · exact e31 wA (oO 2 11)
    · exact e32 wA (oO 2 11)
    · exact mO 3 14
    · exact mO 4 15
    · exact mO 5 16
  intro B3 a3 W3 (S3 : Sta w 25 [(1, (.box 26 (PR (Zv A k1) (Zv (((D : Nat) : Int)) k2)))), (2, (.box 34 (Is (.agg #[.float .f64 0, .float .f64 0]))))] [(4, Is (.int .u64 ((m1 : Nat) : Int))), (5, iV n1), (6, Is (.bool a)), (0, TB)] _ _ _)
  refine wp_stmt_seq [.val (Part a3 1 0), .val (Zv A k1), .val (iV ((A).sign)), .val (Is (.bool (ng A))), .val (Is (.int .u64 ((m1 : Nat) : Int))), .val (iV n1), .val (Is (.bool a)), .val (SF [(FL (some (ivL (ng A) (abR P) (abA P a)))), (FL (some (ivH (ng A) (abR P) (abA P a))))]), .put (.inl 2) (.box 34 (SF [(FL (some (ivL (ng A) (abR P) (abA P a)))), (FL (some (ivH (ng A) (abR P) (abA P a))))])), .val (iV 0)] [.inr 1] [.inl 9, .inr 3] follows S3 rfl (by kernel_rfl) ?_ ?_
  · repeat' refine And.intro ?_ ?_
    · trivial
    · exact owe_part rfl wA rfl (k := 0) rfl (by kernel_rfl) rfl (fun ρ w b h => part_rat0 ρ _ _ w b 0 h)
    · exact owe_pload rfl wA rfl (oO 0 17) (k := 0) rfl (by kernel_rfl) rfl (fun ρ w b u h1 h2 h3 => pload_num ρ _ _ w b u h1 h2 h3)
    · exact cc1 wA (qO 1 18 rfl) (fresh_is _) (fun w u h1 => g_zsgn (by omega) w u ((fun _ _ h => h) _ _ h1))
    · exact owe_bin rfl wA rfl (oO 2 19) (opnd_const _) rfl (fun ρ w h1 h2 => by exact run_sgn ρ _ _ _ w A h1 h2)
    · exact mS 0 4
    · exact mS 1 5
    · exact mS 2 6
    · exact owe_call4 rfl wA rfl (oO 3 20) (oO 4 21) (oO 5 22) (oO 6 23) (fresh_iv _ _) rfl (fun args w => by go_simp) (h_about hr1 hp1 hC)
    · exact owe_set rfl wA rfl (k := 1) rfl (by kernel_rfl) (oO 7 24) (stores_of strct_ival shp_i0 shp_iv) rfl
    · exact mC
  intro B4 a4 W4 (S4 : Sta w 25 [(2, (.box 34 (SF [(FL (some (ivL (ng A) (abR P) (abA P a)))), (FL (some (ivH (ng A) (abR P) (abA P a))))])))] [(3, iV 0), (0, TB)] _ _ _)
  refine wp_ret ?_
  exact end_two S4 rfl (res_cell S4 0 2 rfl strct_ival shp_iv) (res_tmp S4 0 3 rfl)
end Go.Proofs.YtgalppimdmjdcabGreatDoor

/-
  OfInt and OfRat answer the floats beside the number.
-/
namespace Go.Proofs.YtgalppimdmjdcabGreatDoor
open Go Go.RowKit Nt
set_option linter.unusedSimpArgs false
set_option linter.unusedVariables false
set_option maxRecDepth 20000

theorem tM_top {A : Int} (h : tE A ≠ 0) : 4503599627370496 ≤ tM A := by
  unfold tM
  rw [Nat.le_div_iff_mul_le (Nat.two_pow_pos _), show (4503599627370496 : Nat) = 2 ^ 52 from rfl, two_pow_mul]
  have h0 : A.natAbs ≠ 0 := fun e => h (by unfold tE; rw [e]; rfl)
  refine Nat.le_trans (Nat.pow_le_pow_right (by decide) ?_) (bl_lo h0)
  unfold tE at h ⊢
  omega
theorem ab_is {N M P r : Nat} {a a0 : Bool} (h : IsFl N M r a) (h1 : P < 9218868437227405312 → IsFl N M P a0) (h2 : 9218868437227405312 ≤ P → IsFl N M 9218868437227405311 false) : r = abR P ∧ a = abA P a0 := by
  unfold abR abA
  by_cases hP : P < 9218868437227405312
  · rw [if_pos hP, if_pos hP]; exact h.one (h1 hP)
  · rw [if_neg hP, if_neg hP]; exact h.one (h2 (by omega))
theorem fl_natN (x d : Nat) (hd : d ≠ 0) : fl (x : Int) (d : Int) = ((x / d : Nat) : Int) ∧ rm (x : Int) (d : Int) = ((x % d : Nat) : Int) := by
  have h1 := Nat.div_add_mod x d
  have h2 := Nat.mod_lt x (show 0 < d by omega)
  refine fl_unique (by omega) ?_ (fun _ => ⟨by omega, by omega⟩) (fun h => by omega)
  rw [← Int.natCast_mul, ← Int.natCast_add]
  rw [Nat.mul_comm] at h1
  exact congrArg Int.ofNat h1.symm
theorem ct_anti {N M L L' : Nat} (hM : M ≠ 0) (h : L ≤ L') : ctQ N M L' ≤ ctQ N M L := by
  unfold ctQ
  exact Nat.div_le_div_left (Nat.mul_le_mul_left _ (Nat.pow_le_pow_right (by decide) h)) (Nat.mul_pos (by omega) (Nat.two_pow_pos L))
theorem Ldexp_inf : ∀ w, Calls Tryz.prog 18 #[.float .f64 (floatOfInt .f64 ((1 : Nat) : Int)), .int .i64 1024] w (Gives (IS (.float .f64 9218868437227405312)) w) := fun w => by
  obtain ⟨l, f, hl, hf, hmf, hw, hll⟩ := of_word 1 (by decide) (by decide)
  have hb := fw_lt (show 0 < 2 by decide) (show l + 1023 < 2048 by omega) hf
  have hp := plc_fw 0 (l + 1023) f (by decide) (by omega) hf
  rw [if_neg (by decide)] at hp
  rw [hw]
  exact Ldexp_w w _ _ _ (fun w => ldexp_I w _ _ _ _ _ hb hp rfl (by omega) (by omega) hf (by decide) (by decide) rfl (by omega))
theorem isfl_big {N D : Nat} (hN : N ≠ 0) (hD : D ≠ 0) (h : Go.bitLen D + 1024 < Go.bitLen N) : IsFl N D 9218868437227405311 false := by
  obtain ⟨L, hL⟩ : ∃ L, L + Go.bitLen D + 53 = Go.bitLen N + 1074 := ⟨Go.bitLen N + 1074 - (Go.bitLen D + 53), by omega⟩
  obtain ⟨g1, g2⟩ := ct_guess hN hD hL
  by_cases hq : ctQ N D L < 9007199254740992
  · exact (ct_isfl hD hq (Or.inr g1)).2 (by omega)
  · have e2 := ct_step N D L
    exact (ct_isfl (L := L + 1) hD (by omega) (Or.inr (by omega))).2 (by omega)
/-- What top answers, and that it is the floor. -/
theorem h_ofrat {A : Int} {D k1 k2 r : Nat} {a : Bool} (hA : A ≠ 0) (hD : D ≠ 0) (b1 : k1 ≤ 1048576) (b2 : k2 ≤ 1048576) (h : IsFl A.natAbs D r a) : ∀ w u, T32 w → Rv A ((D : Nat) : Int) k1 k2 u w → Calls Tryz.prog 7 #[u] w (Gives (TWO (IVN (some (ivL (ng A) r a)) (some (ivH (ng A) r a))) (IS (.int .i64 0))) w) := fun w u hT hr => by
  have lA : (digs A.natAbs).length ≤ 1048576 := by
    obtain ⟨x0, x1, y0, y1, rfl, ⟨s, p, n, c, xs, e, h1, h2, h3⟩, _⟩ := hr
    rw [← h2, sg_abs]; exact Nat.le_trans h1.dl (by omega)
  have lD : (digs D).length ≤ 1048576 := by
    obtain ⟨x0, x1, y0, y1, rfl, _, ⟨s, p, n, c, xs, e, h1, h2, h3⟩⟩ := hr
    have : D = val xs := by have := congrArg Int.natAbs h2; rw [sg_abs] at this; exact this.symm
    rw [this]; exact Nat.le_trans h1.dl (by omega)
  have hbN := bl_most lA
  have hbM := bl_most lD
  have hN : A.natAbs ≠ 0 := by omega
  obtain ⟨bN, eN⟩ : ∃ b, Go.bitLen A.natAbs = b := ⟨_, rfl⟩
  obtain ⟨bM, eM⟩ : ∃ b, Go.bitLen D = b := ⟨_, rfl⟩
  rw [eN] at hbN
  rw [eM] at hbM
  by_cases g : 1024 < ((bN : Nat) : Int) - ((bM : Nat) : Int)
  · have o := h.one (isfl_big hN hD (by rw [eN, eM]; omega))
    obtain ⟨R, e1, e3, e2⟩ := abN (P := 9218868437227405312) (by omega) false
    have hR : r = R := by have := o.1; omega
    rw [o.2, hR, ← e1, ← e2]
    exact ofrat_w w A D k1 k2 u (rv_has hr) hD (by omega) (by omega) hT 1 1024 9218868437227405312 9218868437227405312 false (by decide) (by rw [Nat.min_self]; rfl) Ldexp_inf
      (fun w u hT hr => top_big w A D k1 k2 u (rv_has hr) hD (by omega) (by omega) hT bN bM eN eM (by omega) (by omega) b1 b2 _ rfl g)
  · obtain ⟨s, m1, hm1, hs2, hs3⟩ : ∃ (s : Nat) (m1 : Int), ((53 - (((bN : Nat) : Int) - ((bM : Nat) : Int)) ≤ 1074 ∧ m1 = 53 - (((bN : Nat) : Int) - ((bM : Nat) : Int))) ∨ (1074 ≤ 53 - (((bN : Nat) : Int) - ((bM : Nat) : Int)) ∧ m1 = 1074)) ∧ ((0 ≤ m1 ∧ ((s : Nat) : Int) = m1) ∨ (m1 ≤ 0 ∧ ((s : Nat) : Int) = 0)) ∧ s ≤ 1074 := by
      by_cases c1 : 53 - (((bN : Nat) : Int) - ((bM : Nat) : Int)) ≤ 1074
      · by_cases c2 : 0 ≤ 53 - (((bN : Nat) : Int) - ((bM : Nat) : Int))
        · exact ⟨(53 - (((bN : Nat) : Int) - ((bM : Nat) : Int))).toNat, _, Or.inl ⟨c1, rfl⟩, Or.inl ⟨c2, by omega⟩, by omega⟩
        · exact ⟨0, _, Or.inl ⟨c1, rfl⟩, Or.inr ⟨by omega, rfl⟩, by omega⟩
      · exact ⟨1074, 1074, Or.inr ⟨by omega, rfl⟩, Or.inl ⟨by decide, rfl⟩, by omega⟩
    obtain ⟨q, eq⟩ : ∃ q, A.natAbs * 2 ^ s / D = q := ⟨_, rfl⟩
    obtain ⟨rr, er⟩ : ∃ rr, A.natAbs * 2 ^ s % D = rr := ⟨_, rfl⟩
    have hqc : q = ctQ A.natAbs D (1074 - s) := by rw [← eq]; exact (ct_neg (by omega)).1
    -- how long the quotient is
    have hq1 : s = 0 ∨ q < 18014398509481984 := by
      by_cases hs0 : s = 0
      · exact Or.inl hs0
      · right
        rw [hqc]
        by_cases c : 53 - (((bN : Nat) : Int) - ((bM : Nat) : Int)) ≤ 1074
        · exact (ct_guess (L := 1074 - s) hN hD (by rw [eN, eM]; omega)).2
        · have := ct_small (N := A.natAbs) hD (by rw [eN, eM]; omega)
          rw [show 1074 - s = 0 by omega]
          omega
    have lq : (digs q).length ≤ 1048576 := by
      rcases hq1 with h0 | h0
      · subst h0
        rw [Nat.pow_zero, Nat.mul_one] at eq
        rw [← eq]
        exact Nat.le_trans (digs_length_mono (Nat.div_le_self _ _)) lA
      · exact Nat.le_trans (two_limbs h0) (by decide)
    have lN : (digs (A.natAbs * 2 ^ s)).length ≤ 2097152 := Nat.le_trans (digs_mul_len lA (pw_len2 (N := 40) (by omega))) (by decide)
    have hbq := bl_most lq
    obtain ⟨E, hE⟩ : ∃ E, tE ((q : Nat) : Int) = E := ⟨_, rfl⟩
    have hE2 : E ≤ 40000000 := by rw [← hE]; unfold tE; rw [Int.natAbs_natCast]; omega
    obtain ⟨L, hL⟩ : ∃ L, L + s = E + 1074 := ⟨E + 1074 - s, by omega⟩
    have tp := tp_ct (N := A.natAbs) (M := D) hL
    rw [eq, er] at tp
    have e1 : tM ((q : Nat) : Int) = ctQ A.natAbs D L := by rw [← tp.1]; unfold tM; rw [hE, Int.natAbs_natCast]
    have e2 : (tI ((q : Nat) : Int) && decide (rr = 0)) = ctR A.natAbs D L := by rw [← tp.2]; unfold tI; rw [hE, Int.natAbs_natCast]
    have hK := tM_lt ((q : Nat) : Int)
    have hLK : L = 0 ∨ 4503599627370496 ≤ tM ((q : Nat) : Int) := by
      by_cases hE0 : E = 0
      · by_cases hs4 : s = 1074
        · exact Or.inl (by omega)
        · right
          have em : tM ((q : Nat) : Int) = q := by unfold tM; rw [hE, hE0, Nat.pow_zero, Nat.div_one, Int.natAbs_natCast]
          rw [em, hqc]
          obtain ⟨L0, hL0⟩ : ∃ L0, L0 + bM + 53 = bN + 1074 := ⟨bN + 1074 - (bM + 53), by omega⟩
          have g1 := (ct_guess (L := L0) hN hD (by rw [eN, eM]; omega)).1
          exact Nat.le_trans g1 (ct_anti hD (by omega))
      · exact Or.inr (tM_top (by rw [hE]; exact hE0))
    obtain ⟨r1, hr1, hp1, hC⟩ := Ldexp_word _ L hK hLK (by omega)
    have fl := ct_isfl (N := A.natAbs) hD (by rw [← e1]; exact hK) (by rw [← e1]; exact hLK)
    rw [← e1, ← e2] at fl
    obtain ⟨o1, o2⟩ := ab_is h fl.1 fl.2
    rw [o1, o2]
    have hNn : ((A.natAbs : Nat) : Int) * 2 ^ (((s : Nat) : Int)).toNat = ((A.natAbs * 2 ^ s : Nat) : Int) := by rw [Int.toNat_natCast, Int.natCast_mul, Int.natCast_pow]; rfl
    obtain ⟨hf1, hf2⟩ := fl_natN (A.natAbs * 2 ^ s) D hD
    rw [eq] at hf1
    rw [er] at hf2
    have lr : (digs rr).length ≤ 2097152 := by rw [← er]; exact Nat.le_trans (digs_length_mono (Nat.mod_le _ _)) lN
    refine ofrat_w w A D k1 k2 u (rv_has hr) hD (by omega) (by omega) hT _ _ _ r1 _ hr1 hp1 hC (fun w u hT hr => ?_)
    cases hI : tI ((q : Nat) : Int) with
    | true =>
      rw [Bool.true_and]
      exact top_1 w A D k1 k2 u (rv_has hr) hD (by omega) (by omega) hT bN bM eN eM (by omega) (by omega) b1 b2 _ rfl (by omega) m1 s hm1 hs2 hs3 _ q rr hNn hf1 hf2 lA lN lq lr _ (by rw [hE]; omega) (by omega) hI
    | false =>
      rw [Bool.false_and]
      exact top_0 w A D k1 k2 u (rv_has hr) hD (by omega) (by omega) hT bN bM eN eM (by omega) (by omega) b1 b2 _ rfl (by omega) m1 s hm1 hs2 hs3 _ q rr hNn hf1 hf2 lA lN lq lr _ (by rw [hE]; omega) (by omega) hI
theorem h_ofrat0 {A : Int} {D k1 k2 : Nat} (hA : A = 0) (hD : D ≠ 0) (b1 : k1 ≤ 1048576) (b2 : k2 ≤ 1048576) : ∀ w u, T32 w → Rv A ((D : Nat) : Int) k1 k2 u w → Calls Tryz.prog 7 #[u] w (Gives (TWO (IVN (some 0) (some 0)) (IS (.int .i64 0))) w) := fun w u hT hr => by
  subst hA
  have lD : (digs D).length ≤ 1048576 := by
    obtain ⟨x0, x1, y0, y1, rfl, _, ⟨s, p, n, c, xs, e, h1, h2, h3⟩⟩ := hr
    have : D = val xs := by have := congrArg Int.natAbs h2; rw [sg_abs] at this; exact this.symm
    rw [this]; exact Nat.le_trans h1.dl (by omega)
  have hbM := bl_most lD
  obtain ⟨bM, eM⟩ : ∃ b, Go.bitLen D = b := ⟨_, rfl⟩
  rw [eM] at hbM
  obtain ⟨s, m1, hm1, hs2, hs3⟩ : ∃ (s : Nat) (m1 : Int), ((53 - (((0 : Nat) : Int) - ((bM : Nat) : Int)) ≤ 1074 ∧ m1 = 53 - (((0 : Nat) : Int) - ((bM : Nat) : Int))) ∨ (1074 ≤ 53 - (((0 : Nat) : Int) - ((bM : Nat) : Int)) ∧ m1 = 1074)) ∧ ((0 ≤ m1 ∧ ((s : Nat) : Int) = m1) ∨ (m1 ≤ 0 ∧ ((s : Nat) : Int) = 0)) ∧ s ≤ 1074 := by
    by_cases c1 : 53 - (((0 : Nat) : Int) - ((bM : Nat) : Int)) ≤ 1074
    · exact ⟨(53 - (((0 : Nat) : Int) - ((bM : Nat) : Int))).toNat, _, Or.inl ⟨c1, rfl⟩, Or.inl ⟨by omega, by omega⟩, by omega⟩
    · exact ⟨1074, 1074, Or.inr ⟨by omega, rfl⟩, Or.inl ⟨by decide, rfl⟩, by omega⟩
  obtain ⟨f1, f2⟩ := fl_natN 0 D hD
  rw [Nat.zero_div] at f1
  rw [Nat.zero_mod] at f2
  have z1 : (digs (((0 : Nat) : Int)).natAbs).length ≤ 1048576 := by rw [Int.natAbs_natCast, digs_zero]; decide
  refine ofrat_w w 0 D k1 k2 u (rv_has hr) hD (by omega) (by omega) hT 0 (((tE ((0 : Nat) : Int) : Nat) : Int) - ((s : Nat) : Int)) 0 0 true (by decide) rfl (Ldexp_zero _) (fun w u hT hr => ?_)
  exact top_1 w 0 D k1 k2 u (rv_has hr) hD (by omega) (by omega) hT 0 bM rfl eM (by omega) (by omega) b1 b2 _ rfl (by omega) m1 s hm1 hs2 hs3 0 0 0 (Int.zero_mul _) f1 f2 z1 (Nat.le_trans z1 (by decide)) z1 (Nat.le_trans z1 (by decide)) _ rfl (by decide) rfl
end Go.Proofs.YtgalppimdmjdcabGreatDoor

/-
  IvalInts' and IvalRats' walks.
-/
namespace Go.Proofs.YtgalppimdmjdcabGreatDoor
open Go Go.RowKit Nt
set_option linter.unusedSimpArgs false
set_option linter.unusedVariables false
set_option maxRecDepth 20000
end Go.Proofs.YtgalppimdmjdcabGreatDoor
