import Derived.Test.YtaplbadcpbollaaGreatDoorSetY
import Derived.Test.YtaplbadcpbollaaGreatDoorSetN
import Derived.Test.YtaplbadcpbollaaGreatDoorSetG
import Derived.Test.YtaplbadcpbollaaGreatDoorROf
import Derived.Test.YtaplbadcpbollaaGreatDoorRHalf
import Derived.Test.YtaplbadcpbollaaGreatDoorSetH
import Derived.Test.YtaplbadcpbollaaGreatDoorSetX
import Derived.Test.YtaplbadcpbollaaGreatDoorSetE
import Derived.Test.YtaplbadcpbollaaGreatDoorSetF
/-
  The calls of rat, of the document's rationals and of their laws, in the form that the logic of statements takes.
-/
namespace Go.Proofs.YtaplbadcpbollaaGreatDoor
open Go Go.RowKit Nt
set_option linter.unusedSimpArgs false
set_option linter.unusedVariables false
set_option maxRecDepth 20000

theorem zv_pos {t : Bool} {ys : List Nat} {D : Nat} (e : sg t (val ys) = (D : Int)) (hD : D ≠ 0) : t = false ∧ val ys = D := by
  cases t
  · simp only [sg, Bool.false_eq_true, if_false] at e
    exact ⟨rfl, by omega⟩
  · simp only [sg, if_true] at e
    omega
theorem rt_gives {w : World} {A : Int} {D k k' f : Nat} {args : Array Value} (h : Calls Tryz.prog f args w (Rt w A D k k')) : Calls Tryz.prog f args w (Gives (RN A D) w) := by
  refine h.mono ?_
  rintro e w' ⟨b1, L1, D1, r1, k1, L2, r2, k2, rfl, hb, s1, s2, hN, hL1, hL2, f1, f2⟩
  have hl := s2.out.len
  refine ⟨_, rfl, hb, _, _, _, _, rfl, nm_zn hN.out s1.out f1.out, nm_zn ⟨?_, ?_, ?_⟩ s2.out f2.out⟩
  · unfold ng; simp
  · rw [Int.natAbs_natCast]
  · exact hl
theorem rte_gives {w : World} {A : Int} {D k k' f : Nat} {args : Array Value} (h : Calls Tryz.prog f args w (RtE w A D k k')) : Calls Tryz.prog f args w (Gives (TWO (RN A D) (IS (.int .i64 0))) w) := by
  refine h.mono ?_
  rintro e w' ⟨b1, L1, D1, r1, k1, L2, r2, k2, rfl, hb, s1, s2, hN, hL1, hL2, f1, f2⟩
  have hl := s2.len
  refine ⟨_, rfl, hb, _, _, rfl, ⟨_, _, _, _, rfl, nm_zn hN s1 f1.out, nm_zn ⟨?_, ?_, ?_⟩ s2 f2.out⟩, rfl⟩
  · unfold ng; simp
  · rw [Int.natAbs_natCast]
  · exact hl

/-! rat. -/
theorem g_lowest {A : Int} {D k k' : Nat} (hD : D ≠ 0) (hk : k ≤ 67108864) (hk' : k' ≤ 67108864) : ∀ w u v, Zv A k u w → Zv (D : Int) k' v w → Calls Tryz.prog 14 #[u, v] w (Gives (RN (nR A D) (dR A D)) w) := by
  rintro w u v ⟨s, p, n, c, xs, rfl, h, rfl, hn⟩ ⟨t, q, m, d, ys, rfl, h', eD, hm⟩
  obtain ⟨rfl, rfl⟩ := zv_pos eD hD
  rw [nR_sg, dR_sg]
  exact rt_gives (lowest_c w s p q n c m d xs ys h h' hD (by omega) (by omega))
theorem g_ratmake {A : Int} {D k k' : Nat} (hD : D ≠ 0) (hk : k ≤ 67108864) (hk' : k' ≤ 67108864) : ∀ w u v, Zv A k u w → Zv (D : Int) k' v w → Calls Tryz.prog 12 #[u, v] w (Gives (TWO (RN (nR A D) (dR A D)) (IS (.int .i64 0))) w) := by
  rintro w u v ⟨s, p, n, c, xs, rfl, h, rfl, hn⟩ ⟨t, q, m, d, ys, rfl, h', eD, hm⟩
  obtain ⟨rfl, rfl⟩ := zv_pos eD hD
  rw [nR_sg, dR_sg]
  exact rte_gives (ratmake_pos w s p q n c m d xs ys h h' hD (by omega) (by omega))
theorem g_maybe1 {A D : Int} {k k' lo : Nat} (hk : k' ≤ 67108864) : ∀ w u, RL1 (Rv A D k k') lo u w → Calls Tryz.prog 13 #[u] w (Gives (IS (.bool (decide (0 < D.sign)))) w) := by
  rintro w u ⟨g, x0, x1, y0, y1, rfl, _, hg, a0, a1, b0, b1, e, ⟨s, p, n, c, xs, ea, h, rfl, hn⟩, ⟨t, q, m, d, ys, eb, h', rfl, hm⟩⟩
  simp at e ea eb
  obtain ⟨rfl, rfl, rfl, rfl⟩ := e
  obtain ⟨rfl, rfl⟩ := ea
  obtain ⟨rfl, rfl⟩ := eb
  refine (mayBe1 w g s p n c t q m d ys hg h' (by omega) _ rfl).mono ?_
  rintro e w' ⟨rfl, hb⟩
  exact ⟨_, rfl, hb, rfl⟩
theorem rl1_imp {φ φ' : Pr} {lo : Nat} (h : ∀ v w, φ v w → φ' v w) : ∀ v w, RL1 φ lo v w → RL1 φ' lo v w := fun v w ⟨g, x0, x1, y0, y1, e, hl, hg, a⟩ => ⟨g, x0, x1, y0, y1, e, hl, hg, h _ _ a⟩
/-! The laws'. -/
theorem g_same {N : Int} {D lo lo' : Nat} : ∀ w u v, RN N D lo u w → RN N D lo' v w → Calls Tryz.prog 10 #[u, v] w (Gives (IS (.bool true)) w) := by
  rintro w u v ⟨x0, x1, y0, y1, rfl, ⟨r, c, ea, h, _⟩, ⟨r', c', eb, h', _⟩⟩ ⟨z0, z1, u0, u1, rfl, ⟨r2, c2, ea', h2, _⟩, ⟨r2', c2', eb', h2', _⟩⟩
  simp at ea eb ea' eb'
  obtain ⟨rfl, rfl⟩ := ea
  obtain ⟨rfl, rfl⟩ := eb
  obtain ⟨rfl, rfl⟩ := ea'
  obtain ⟨rfl, rfl⟩ := eb'
  rw [Int.natAbs_natCast] at h' h2'
  refine (rsame_c w _ _ r r2 r' r2' _ c _ c2 _ c' _ c2' _ _ h h2 h' h2').mono ?_
  rintro e w' ⟨rfl, hb⟩
  exact ⟨_, rfl, hb, rfl⟩
theorem g_awake : ∀ w, Calls Tryz.prog 11 #[] w (Gives (IS (.bool true)) w) := fun w => by
  refine (rawake_c w).mono ?_
  rintro e w' ⟨rfl, hb⟩
  exact ⟨_, rfl, hb, rfl⟩
end Go.Proofs.YtaplbadcpbollaaGreatDoor

/-
  rat.fold hands the one rational of a list to a closure; rules for rat.sum and rat.minus.
-/
namespace Go.Proofs.YtaplbadcpbollaaGreatDoor
open Go Go.RowKit Nt
set_option linter.unusedSimpArgs false
set_option linter.unusedVariables false
set_option maxRecDepth 20000

end Go.Proofs.YtaplbadcpbollaaGreatDoor

/-
  rat.sum with its closure, rat.minus, rat.Add, rat.Sub.
-/
namespace Go.Proofs.YtaplbadcpbollaaGreatDoor
open Go Go.RowKit Nt
set_option linter.unusedSimpArgs false
set_option linter.unusedVariables false
set_option maxRecDepth 20000


section
variable {ops : Array Oper} {l : List Kd} {bx : Bxs} {sl : List (Tmp × Pr)} {i : Nat} {o : Oper} {Q : Exit → Act → World → Prop} {a0 : Act} {n : Nat} {w0 : World}
end
end Go.Proofs.YtaplbadcpbollaaGreatDoor

/-
  The document's quotients: Floor, Near, Exact.
-/
namespace Go.Proofs.YtaplbadcpbollaaGreatDoor
open Go Go.RowKit Nt
set_option linter.unusedSimpArgs false
set_option linter.unusedVariables false
set_option maxRecDepth 20000

end Go.Proofs.YtaplbadcpbollaaGreatDoor

/-
  zint's quotients: Floor, Near, Exact, whole.
-/
namespace Go.Proofs.YtaplbadcpbollaaGreatDoor
open Go Go.RowKit Nt
set_option linter.unusedSimpArgs false
set_option linter.unusedVariables false
set_option maxRecDepth 20000


end Go.Proofs.YtaplbadcpbollaaGreatDoor

/-
  Rationals in lowest terms: one form for each, how long it is, what sums, products and quotients make.
-/
namespace Go.Proofs.YtaplbadcpbollaaGreatDoor
open Go Go.RowKit Nt
set_option linter.unusedSimpArgs false
set_option linter.unusedVariables false
set_option maxRecDepth 20000

theorem nR_mul (P : Int) (Y : Nat) : nR P Y * (Y : Int) = P * (dR P Y : Int) := by
  have h1 := g_nR P Y
  have h2 := g_dR P Y
  have h3 : ((Nat.gcd P.natAbs Y : Nat) : Int) * (dR P Y : Int) = (Y : Int) := by rw [← Int.natCast_mul, h2]
  generalize ((Nat.gcd P.natAbs Y : Nat) : Int) = G at h1 h3
  grind
theorem run_gtr_int_d (ρ : Operand → Value) (o : Oper) (x y : Operand) (w : World) (a b : Int) (h1 : ρ x = .int .i64 a) (h2 : ρ y = .int .i64 b) : (execOp ρ { o with op := .binOp .gtr 3 x y 3 }).run Tryz.prog w = .ok (.value (.bool (decide (b < a)))) w := by
  by_cases h : b < a
  · rw [decide_eq_true h]
    unfold execOp
    go_simp
  · rw [decide_eq_false h]
    have h' : a ≤ b := by omega
    clear h
    unfold execOp
    go_simp
end Go.Proofs.YtaplbadcpbollaaGreatDoor

/-
  rat.Add, Sub, Floor, Near; the document's Valid; what the laws ask of rationals.
-/
namespace Go.Proofs.YtaplbadcpbollaaGreatDoor
open Go Go.RowKit Nt
set_option linter.unusedSimpArgs false
set_option linter.unusedVariables false
set_option maxRecDepth 20000

set_option maxHeartbeats 400000 in
theorem rvalid_w (w : World) (A D : Int) (k1 k2 : Nat) (u : Value) (h : Rv A D k1 k2 u w) (hk1 : k1 ≤ 8388608) (hk2 : k2 ≤ 8388608) :
    Calls Tryz.prog 18 #[u] w (Gives (IS (.bool (decide (0 < D.sign)))) w) := by
  refine calls_sta (sl := [(0, (PR (Zv A k1) (Zv D k2)))]) Tryz.func18 rfl Tryz.ntmps18 (by simp) (args_cons rfl (rv_has h) args_nil) ?_
  intro a0 S0
  refine wp_stmt_seq [.new (.box 26 (PR (Zv A k1) (Zv D k2))), kF] [.inl 0] [.inl 1] follows S0 rfl (by kernel_rfl) ?_ ?_
  · refine ⟨⟨trivial, ?_⟩, ?_⟩
    · exact owe_box rfl wA rfl (oS 0 0) rfl (fun ρ w h => box_rat (shp_pr shp_zv shp_zv) ρ _ _ w h)
    · exact mC
  intro B1 a1 W1 (S1 : Sta w 7 [(1, (.box 26 (PR (Zv A k1) (Zv D k2))))] [(2, bF)] _ _ _)
  refine wp_stmt_seq [.val (Part a1 1 2), .val (Zv D k2), .val (iV ((D).sign)), .val (Is (.bool (decide (0 < D.sign)))), .val (Is (.bool (decide (0 < D.sign))))] [.inr 0] [.inl 4] follows S1 rfl (by kernel_rfl) ?_ ?_
  · refine ⟨⟨⟨⟨⟨trivial, ?_⟩, ?_⟩, ?_⟩, ?_⟩, ?_⟩
    · exact owe_part rfl wA rfl (k := 0) rfl (by kernel_rfl) rfl (fun ρ w b h => part_rat1 ρ _ _ w b 0 h)
    · exact owe_pload rfl wA rfl (oO 0 3) (k := 0) rfl (by kernel_rfl) rfl (fun ρ w b u h1 h2 h3 => pload_den ρ _ _ w b u h1 h2 h3)
    · exact cc1 wA (qO 1 4 rfl) (fresh_is _) (fun w u h1 => g_rsign (by omega) w u ((fun _ _ h => h) _ _ h1))
    · exact owe_bin rfl wA rfl (oO 2 5) (opnd_const _) rfl (fun ρ w h1 h2 => by exact run_gtr_int_d ρ _ _ _ w _ _ h1 h2)
    · exact mO 3 6
  intro B2 a2 W2 (S2 : Sta w 7 [(1, (.box 26 (PR (Zv A k1) (Zv D k2))))] [(2, Is (.bool (decide (0 < D.sign))))] _ _ _)
  refine wp_ret ?_
  exact end_one S2 rfl (res_tmp S2 0 2 rfl)

theorem g_rvalid {A D : Int} {k1 k2 : Nat} (hk1 : k1 ≤ 8388608) (hk2 : k2 ≤ 8388608) : ∀ w u, Rv A D k1 k2 u w → Calls Tryz.prog 18 #[u] w (Gives (IS (.bool (decide (0 < D.sign)))) w) := fun w u h => rvalid_w w A D k1 k2 u h hk1 hk2

set_option maxHeartbeats 400000 in
theorem rok_w (w : World) (A D : Int) (k1 k2 : Nat) (u : Value) (h : Rv A D k1 k2 u w) (hk1 : k1 ≤ 8388608) (hk2 : k2 ≤ 8388608) :
    Calls Tryz.prog 6 #[u] w (Gives (IS (.bool (decide (0 < D.sign)))) w) := by
  refine calls_sta (sl := [(0, (PR (Zv A k1) (Zv D k2)))]) Tryz.func6 rfl Tryz.ntmps6 (by simp) (args_cons rfl (rv_has h) args_nil) ?_
  intro a0 S0
  refine wp_stmt_seq [.new (.box 26 (PR (Zv A k1) (Zv D k2))), kF] [.inl 0] [.inl 1] follows S0 rfl (by kernel_rfl) ?_ ?_
  · refine ⟨⟨trivial, ?_⟩, ?_⟩
    · exact owe_box rfl wA rfl (oS 0 0) rfl (fun ρ w h => box_rat (shp_pr shp_zv shp_zv) ρ _ _ w h)
    · exact mC
  intro B1 a1 W1 (S1 : Sta w 5 [(1, (.box 26 (PR (Zv A k1) (Zv D k2))))] [(2, bF)] _ _ _)
  refine wp_stmt_seq [.val (PR (Zv A k1) (Zv D k2)), .val (Is (.bool (decide (0 < D.sign)))), .val (Is (.bool (decide (0 < D.sign))))] [.inr 0] [.inl 2] follows S1 rfl (by kernel_rfl) ?_ ?_
  · refine ⟨⟨⟨trivial, ?_⟩, ?_⟩, ?_⟩
    · exact lod 0 wA (loads_of strct_rat (shp_pr shp_zv shp_zv))
    · exact cc1 wA (qO 0 3 rfl) (fresh_is _) (fun w u h1 => g_rvalid (by omega) (by omega) w u ((pr_imp (fun _ _ h => h) (fun _ _ h => h)) _ _ h1))
    · exact mO 1 4
  intro B2 a2 W2 (S2 : Sta w 5 [(1, (.box 26 (PR (Zv A k1) (Zv D k2))))] [(2, Is (.bool (decide (0 < D.sign))))] _ _ _)
  refine wp_ret ?_
  exact end_one S2 rfl (res_tmp S2 0 2 rfl)

theorem g_rok {A D : Int} {k1 k2 : Nat} (hk1 : k1 ≤ 8388608) (hk2 : k2 ≤ 8388608) : ∀ w u, Rv A D k1 k2 u w → Calls Tryz.prog 6 #[u] w (Gives (IS (.bool (decide (0 < D.sign)))) w) := fun w u h => rok_w w A D k1 k2 u h hk1 hk2

theorem pos_of_sign {D : Int} (h : decide (0 < D.sign) = true) : ∃ d : Nat, D = (d : Int) ∧ d ≠ 0 := by
  have h1 : 0 < D.sign := of_decide_eq_true h
  have h2 : 0 < D := by
    rcases Int.lt_trichotomy D 0 with h | h | h
    · rw [Int.sign_eq_neg_one_of_neg h] at h1; omega
    · rw [h] at h1; exact absurd h1 (by decide)
    · exact h
  exact ⟨D.toNat, by omega, by omega⟩
/-- What is said of a fraction and its lowest terms. -/
theorem fr {P : Int} {Y : Nat} {n : Int} {d : Nat} (e1 : nR P Y = n) (e2 : dR P Y = d) : n * (Y : Int) = P * (d : Int) := by rw [← e1, ← e2]; exact nR_mul P Y
theorem rv_in {w : World} {s t : Bool} {p q : Option Addr} {n c m d : Nat} {xs ys : List Nat} (h : Sl w p n c xs) (h' : Sl w q m d ys) : Rv (sg s (val xs)) (sg t (val ys)) n m (.agg #[.bool s, .slice p n c, .bool t, .slice q m d]) w := ⟨_, _, _, _, rfl, ⟨s, p, n, c, xs, rfl, h, rfl, Nat.le_refl _⟩, ⟨t, q, m, d, ys, rfl, h', rfl, Nat.le_refl _⟩⟩

end Go.Proofs.YtaplbadcpbollaaGreatDoor

/-
  More of the document's rationals and of the laws' questions, in the form that the logic of statements takes.
-/
namespace Go.Proofs.YtaplbadcpbollaaGreatDoor
open Go Go.RowKit Nt
set_option linter.unusedSimpArgs false
set_option linter.unusedVariables false
set_option maxRecDepth 20000

theorem g_rmake {A : Int} {D k k' : Nat} (hD : D ≠ 0) (hk : k ≤ 67108864) (hk' : k' ≤ 67108864) : ∀ w u v, Zv A k u w → Zv (D : Int) k' v w → Calls Tryz.prog 19 #[u, v] w (Gives (RN (nR A D) (dR A D)) w) := by
  rintro w u v ⟨s, p, n, c, xs, rfl, h, rfl, hn⟩ ⟨t, q, m, d, ys, rfl, h', eD, hm⟩
  obtain ⟨rfl, rfl⟩ := zv_pos eD hD
  rw [nR_sg, dR_sg]
  exact rt_gives (rmake_c w s p q n c m d xs ys h h' hD (by omega) (by omega))
theorem g_rofr {A : Int} {k : Nat} (hk : k ≤ 67108864) : ∀ w u, Zv A k u w → Calls Tryz.prog 29 #[u] w (Gives (RN A 1) w) := by
  rintro w u ⟨s, p, n, c, xs, rfl, h, rfl, hn⟩
  exact rt_gives (rof_c w s p n c xs h (by omega))
theorem g_rone : ∀ w, Calls Tryz.prog 22 #[] w (Gives (ZN 1) w) := fun w => by
  refine (rone_c w).mono ?_
  rintro e w' ⟨r, cr, rfl, Z⟩
  exact za_gives Z
theorem g_same0 : ∀ w u v, Is (.agg #[.bool false, .slice none 0 0, .bool false, .slice none 0 0]) u w → Is (.agg #[.bool false, .slice none 0 0, .bool false, .slice none 0 0]) v w → Calls Tryz.prog 10 #[u, v] w (Gives (IS (.bool true)) w) := by
  rintro w u v rfl rfl
  refine (rsame_c w _ _ _ _ _ _ _ _ _ _ _ _ _ _ _ _ (Sl.none w) (Sl.none w) (Sl.none w) (Sl.none w)).mono ?_
  rintro e w' ⟨rfl, hb⟩
  exact ⟨_, rfl, hb, rfl⟩

end Go.Proofs.YtaplbadcpbollaaGreatDoor
