import Derived.Test.YtgalppimdmjdcabGreatDoorSetY
import Derived.Test.YtgalppimdmjdcabGreatDoorSetN
import Derived.Test.YtgalppimdmjdcabGreatDoorSetG
import Derived.Test.YtgalppimdmjdcabGreatDoorROf
import Derived.Test.YtgalppimdmjdcabGreatDoorRHalf
import Derived.Test.YtgalppimdmjdcabGreatDoorSetH
import Derived.Test.YtgalppimdmjdcabGreatDoorSetX
import Derived.Test.YtgalppimdmjdcabGreatDoorSetE
import Derived.Test.YtgalppimdmjdcabGreatDoorSetF
/-
  The calls of rat, of the document's rationals and of their laws, in the form that the logic of statements takes.
-/
namespace Go.Proofs.YtgalppimdmjdcabGreatDoor
open Go Go.RowKit Nt
set_option linter.unusedSimpArgs false
set_option linter.unusedVariables false
set_option maxRecDepth 20000

theorem zv_pos {t : Bool} {ys : List Nat} {D : Nat} (e : sg t (val ys) = (D : Int)) (hD : D ≠ 0) : t = false ∧ val ys = D := by
  cases t
  · simp only [sg, Bool.false_eq_true, if_false] at e
    exact ⟨rfl, by omega⟩
  · simp only [sg, if_true] at e
    omega
theorem rt_gives {w : World} {A : Int} {D k k' f : Nat} {args : Array Value} (h : Calls Tryz.prog f args w (Rt w A D k k')) : Calls Tryz.prog f args w (Gives (RN A D) w) := by
  refine h.mono ?_
  rintro e w' ⟨b1, L1, D1, r1, k1, L2, r2, k2, rfl, hb, s1, s2, hN, hL1, hL2, f1, f2⟩
  have hl := s2.out.len
  refine ⟨_, rfl, hb, _, _, _, _, rfl, nm_zn hN.out s1.out f1.out, nm_zn ⟨?_, ?_, ?_⟩ s2.out f2.out⟩
  · unfold ng; simp
  · rw [Int.natAbs_natCast]
  · exact hl
theorem rte_gives {w : World} {A : Int} {D k k' f : Nat} {args : Array Value} (h : Calls Tryz.prog f args w (RtE w A D k k')) : Calls Tryz.prog f args w (Gives (TWO (RN A D) (IS (.int .i64 0))) w) := by
  refine h.mono ?_
  rintro e w' ⟨b1, L1, D1, r1, k1, L2, r2, k2, rfl, hb, s1, s2, hN, hL1, hL2, f1, f2⟩
  have hl := s2.len
  refine ⟨_, rfl, hb, _, _, rfl, ⟨_, _, _, _, rfl, nm_zn hN s1 f1.out, nm_zn ⟨?_, ?_, ?_⟩ s2 f2.out⟩, rfl⟩
  · unfold ng; simp
  · rw [Int.natAbs_natCast]
  · exact hl

theorem g_zabs {A : Int} {k : Nat} (hk : k ≤ 70368744177664) : ∀ w u, Zv A k u w → Calls Tryz.prog 46 #[u] w (Gives (ZN (A.natAbs : Int)) w) := by
  rintro w u ⟨s, p, n, c, xs, rfl, h, rfl, hn⟩
  refine (zabs_c w s p n c xs h (by omega)).mono ?_
  rintro e w' ⟨r, cr, rfl, Z⟩
  rw [sg_abs]
  exact za_gives Z
theorem g_zsgn {A : Int} {k : Nat} (hk : k ≤ 70368744177664) : ∀ w u, Zv A k u w → Calls Tryz.prog 24 #[u] w (Gives (IS (.int .i64 A.sign)) w) := by
  rintro w u ⟨s, p, n, c, xs, rfl, h, rfl, hn⟩
  refine (zsign_c w s p n c xs h (by omega)).mono ?_
  rintro e w' ⟨rfl, hb⟩
  exact ⟨_, rfl, hb, rfl⟩

theorem g_ratmake {A : Int} {D k k' : Nat} (hD : D ≠ 0) (hk : k ≤ 67108864) (hk' : k' ≤ 67108864) : ∀ w u v, Zv A k u w → Zv (D : Int) k' v w → Calls Tryz.prog 20 #[u, v] w (Gives (TWO (RN (nR A D) (dR A D)) (IS (.int .i64 0))) w) := by
  rintro w u v ⟨s, p, n, c, xs, rfl, h, rfl, hn⟩ ⟨t, q, m, d, ys, rfl, h', eD, hm⟩
  obtain ⟨rfl, rfl⟩ := zv_pos eD hD
  rw [nR_sg, dR_sg]
  exact rte_gives (ratmake_pos w s p q n c m d xs ys h h' hD (by omega) (by omega))
theorem g_ratof {A : Int} {k : Nat} (hk : k ≤ 67108864) : ∀ w u, Zv A k u w → Calls Tryz.prog 15 #[u] w (Gives (RN A 1) w) := by
  rintro w u ⟨s, p, n, c, xs, rfl, h, rfl, hn⟩
  exact rt_gives (ratof_c w s p n c xs h (by omega))
end Go.Proofs.YtgalppimdmjdcabGreatDoor

/-
  rat.fold hands the one rational of a list to a closure; rules for rat.sum and rat.minus.
-/
namespace Go.Proofs.YtgalppimdmjdcabGreatDoor
open Go Go.RowKit Nt
set_option linter.unusedSimpArgs false
set_option linter.unusedVariables false
set_option maxRecDepth 20000

end Go.Proofs.YtgalppimdmjdcabGreatDoor

/-
  rat.sum with its closure, rat.minus, rat.Add, rat.Sub.
-/
namespace Go.Proofs.YtgalppimdmjdcabGreatDoor
open Go Go.RowKit Nt
set_option linter.unusedSimpArgs false
set_option linter.unusedVariables false
set_option maxRecDepth 20000


section
variable {ops : Array Oper} {l : List Kd} {bx : Bxs} {sl : List (Tmp × Pr)} {i : Nat} {o : Oper} {Q : Exit → Act → World → Prop} {a0 : Act} {n : Nat} {w0 : World}
end
end Go.Proofs.YtgalppimdmjdcabGreatDoor

/-
  The document's quotients: Floor, Near, Exact.
-/
namespace Go.Proofs.YtgalppimdmjdcabGreatDoor
open Go Go.RowKit Nt
set_option linter.unusedSimpArgs false
set_option linter.unusedVariables false
set_option maxRecDepth 20000

end Go.Proofs.YtgalppimdmjdcabGreatDoor

/-
  zint's quotients: Floor, Near, Exact, whole.
-/
namespace Go.Proofs.YtgalppimdmjdcabGreatDoor
open Go Go.RowKit Nt
set_option linter.unusedSimpArgs false
set_option linter.unusedVariables false
set_option maxRecDepth 20000


theorem zv_ne {t : Bool} {ys : List Nat} {B : Int} (e : sg t (val ys) = B) (hB : B ≠ 0) : val ys ≠ 0 := fun h => hB (by rw [← e, h]; cases t <;> rfl)
theorem g_zfloor {A B : Int} {ka kb : Nat} (hB : B ≠ 0) (hk : ka + 1 ≤ 70368744177663) (hk' : kb ≤ 70368744177663) : ∀ w u v, Zv A ka u w → Zv B kb v w → Calls Tryz.prog 47 #[u, v] w (Gives (THREE (ZN (fl A B)) (ZN (rm A B)) (IS (.int .i64 0))) w) := by
  rintro w u v ⟨s, p, n, c, xs, rfl, h, rfl, hn⟩ ⟨t, q, m, d, ys, rfl, h', rfl, hm⟩
  refine (zfloor_c w s t p q n c m d xs ys h h' (zv_ne rfl hB) (by omega) (by omega)).mono ?_
  rintro e w' ⟨bq, Lq, Dq, rq, cq, br, Lr, Dr, rr, cr, rfl, hb, S1, S2, N1, N2, _, _, f1, f2⟩
  exact ⟨_, rfl, hb, _, _, _, rfl, nm_zn N1.out S1.out f1.out, nm_zn N2.out S2.out f2.out, rfl⟩
end Go.Proofs.YtgalppimdmjdcabGreatDoor

/-
  Rationals in lowest terms: one form for each, how long it is, what sums, products and quotients make.
-/
namespace Go.Proofs.YtgalppimdmjdcabGreatDoor
open Go Go.RowKit Nt
set_option linter.unusedSimpArgs false
set_option linter.unusedVariables false
set_option maxRecDepth 20000

theorem nR_mul (P : Int) (Y : Nat) : nR P Y * (Y : Int) = P * (dR P Y : Int) := by
  have h1 := g_nR P Y
  have h2 := g_dR P Y
  have h3 : ((Nat.gcd P.natAbs Y : Nat) : Int) * (dR P Y : Int) = (Y : Int) := by rw [← Int.natCast_mul, h2]
  generalize ((Nat.gcd P.natAbs Y : Nat) : Int) = G at h1 h3
  grind
theorem nR_abs (P : Int) (Y : Nat) : (nR P Y).natAbs = P.natAbs / Nat.gcd P.natAbs Y := by unfold nR; rw [sg_abs]
theorem nR_len {P : Int} {Y k : Nat} (h : (digs P.natAbs).length ≤ k) : (digs (nR P Y).natAbs).length ≤ k := by
  rw [nR_abs]
  exact Nat.le_trans (digs_length_mono (Nat.div_le_self _ _)) h
theorem dR_len {P : Int} {Y k : Nat} (h : (digs Y).length ≤ k) : (digs (dR P Y)).length ≤ k := by
  unfold dR
  exact Nat.le_trans (digs_length_mono (Nat.div_le_self _ _)) h
theorem low_cop {P : Int} {Y : Nat} (hY : Y ≠ 0) : Nat.gcd (nR P Y).natAbs (dR P Y) = 1 := by
  rw [nR_abs]
  unfold dR
  have hg : 0 < Nat.gcd P.natAbs Y := Nat.gcd_pos_of_pos_right _ (by omega)
  exact Nat.gcd_div_gcd_div_gcd_of_pos_right (by omega)
theorem cross_eq {a b a' b' : Nat} (h : a * b' = a' * b) (c : Nat.gcd a b = 1) (c' : Nat.gcd a' b' = 1) (hb : b ≠ 0) : b = b' := by
  have h1 : b ∣ a * b' := ⟨a', by rw [h, Nat.mul_comm]⟩
  have h2 : b ∣ b' := Nat.Coprime.dvd_of_dvd_mul_left (Nat.Coprime.symm c) h1
  have h3 : b' ∣ a' * b := ⟨a, by rw [← h, Nat.mul_comm]⟩
  have h4 : b' ∣ b := Nat.Coprime.dvd_of_dvd_mul_left (Nat.Coprime.symm c') h3
  exact Nat.dvd_antisymm h2 h4
/-- One form for each rational. -/
theorem low_one {P P' : Int} {Y Y' : Nat} (hY : Y ≠ 0) (hY' : Y' ≠ 0) (h : P * (Y' : Int) = P' * (Y : Int)) : nR P Y = nR P' Y' ∧ dR P Y = dR P' Y' := by
  have e1 := nR_mul P Y
  have e2 := nR_mul P' Y'
  have hy : (Y : Int) ≠ 0 := by omega
  have hy' : (Y' : Int) ≠ 0 := by omega
  have k : nR P Y * (dR P' Y' : Int) = nR P' Y' * (dR P Y : Int) := by
    have : ((Y : Int) * (Y' : Int)) * (nR P Y * (dR P' Y' : Int)) = ((Y : Int) * (Y' : Int)) * (nR P' Y' * (dR P Y : Int)) := by
      generalize nR P Y = n at *
      generalize nR P' Y' = n' at *
      generalize (dR P Y : Int) = d at *
      generalize (dR P' Y' : Int) = d' at *
      by_cases hP : P = 0
      · have h0 : P' = 0 := by
          rw [hP, Int.zero_mul] at h
          rcases Int.mul_eq_zero.1 h.symm with h | h
          · exact h
          · exact absurd h hy
        have n0 : n = 0 := by
          rw [hP, Int.zero_mul] at e1
          rcases Int.mul_eq_zero.1 e1 with h | h
          · exact h
          · exact absurd h hy
        have n0' : n' = 0 := by
          rw [h0, Int.zero_mul] at e2
          rcases Int.mul_eq_zero.1 e2 with h | h
          · exact h
          · exact absurd h hy'
        rw [n0, n0']
        simp
      · have : P * ((Y : Int) * (Y' : Int) * (n * d')) = P * ((Y : Int) * (Y' : Int) * (n' * d)) := by grind
        exact Int.eq_of_mul_eq_mul_left hP this
    exact Int.eq_of_mul_eq_mul_left (Int.mul_ne_zero hy hy') this
  have ka : (nR P Y).natAbs * dR P' Y' = (nR P' Y').natAbs * dR P Y := by
    have := congrArg Int.natAbs k
    simpa [Int.natAbs_mul] using this
  have hd := cross_eq ka (low_cop hY) (low_cop hY') (dR_ne hY)
  refine ⟨?_, hd⟩
  rw [hd] at k
  exact Int.eq_of_mul_eq_mul_right (by have := dR_ne (X := P') hY'; omega) k
theorem low_num {P P' : Int} {Y Y' : Nat} (hY : Y ≠ 0) (hY' : Y' ≠ 0) (h : P * (Y' : Int) = P' * (Y : Int)) : RN (nR P Y) (dR P Y) = RN (nR P' Y') (dR P' Y') := by
  obtain ⟨h1, h2⟩ := low_one hY hY' h
  rw [h1, h2]
theorem run_gtr_int_d (ρ : Operand → Value) (o : Oper) (x y : Operand) (w : World) (a b : Int) (h1 : ρ x = .int .i64 a) (h2 : ρ y = .int .i64 b) : (execOp ρ { o with op := .binOp .gtr 3 x y 3 }).run Tryz.prog w = .ok (.value (.bool (decide (b < a)))) w := by
  by_cases h : b < a
  · rw [decide_eq_true h]
    unfold execOp
    go_simp
  · rw [decide_eq_false h]
    have h' : a ≤ b := by omega
    clear h
    unfold execOp
    go_simp
end Go.Proofs.YtgalppimdmjdcabGreatDoor

/-
  rat.Add, Sub, Floor, Near; the document's Valid; what the laws ask of rationals.
-/
namespace Go.Proofs.YtgalppimdmjdcabGreatDoor
open Go Go.RowKit Nt
set_option linter.unusedSimpArgs false
set_option linter.unusedVariables false
set_option maxRecDepth 20000

set_option maxHeartbeats 400000 in
theorem rvalid_w (w : World) (A D : Int) (k1 k2 : Nat) (u : Value) (h : Rv A D k1 k2 u w) (hk1 : k1 ≤ 8388608) (hk2 : k2 ≤ 8388608) :
    Calls Tryz.prog 8 #[u] w (Gives (IS (.bool (decide (0 < D.sign)))) w) := by
  refine calls_sta (sl := [(0, (PR (Zv A k1) (Zv D k2)))]) Tryz.func8 rfl Tryz.ntmps8 (by simp) (args_cons rfl (rv_has h) args_nil) ?_
  intro a0 S0
  refine wp_stmt_seq [.new (.box 26 (PR (Zv A k1) (Zv D k2))), kF] [.inl 0] [.inl 1] follows S0 rfl (by kernel_rfl) ?_ ?_
  · refine ⟨⟨trivial, ?_⟩, ?_⟩
    · exact owe_box rfl wA rfl (oS 0 0) rfl (fun ρ w h => box_rat (shp_pr shp_zv shp_zv) ρ _ _ w h)
    · exact mC
  intro B1 a1 W1 (S1 : Sta w 7 [(1, (.box 26 (PR (Zv A k1) (Zv D k2))))] [(2, bF)] _ _ _)
  refine wp_stmt_seq [.val (Part a1 1 2), .val (Zv D k2), .val (iV ((D).sign)), .val (Is (.bool (decide (0 < D.sign)))), .val (Is (.bool (decide (0 < D.sign))))] [.inr 0] [.inl 4] follows S1 rfl (by kernel_rfl) ?_ ?_
  · refine ⟨⟨⟨⟨⟨trivial, ?_⟩, ?_⟩, ?_⟩, ?_⟩, ?_⟩
    · exact owe_part rfl wA rfl (k := 0) rfl (by kernel_rfl) rfl (fun ρ w b h => part_rat1 ρ _ _ w b 0 h)
    · exact owe_pload rfl wA rfl (oO 0 3) (k := 0) rfl (by kernel_rfl) rfl (fun ρ w b u h1 h2 h3 => pload_den ρ _ _ w b u h1 h2 h3)
    · exact cc1 wA (qO 1 4 rfl) (fresh_is _) (fun w u h1 => g_rsign (by omega) w u ((fun _ _ h => h) _ _ h1))
    · exact owe_bin rfl wA rfl (oO 2 5) (opnd_const _) rfl (fun ρ w h1 h2 => by exact run_gtr_int_d ρ _ _ _ w _ _ h1 h2)
    · exact mO 3 6
  intro B2 a2 W2 (S2 : Sta w 7 [(1, (.box 26 (PR (Zv A k1) (Zv D k2))))] [(2, Is (.bool (decide (0 < D.sign))))] _ _ _)
  refine wp_ret ?_
  exact end_one S2 rfl (res_tmp S2 0 2 rfl)

theorem g_rvalid {A D : Int} {k1 k2 : Nat} (hk1 : k1 ≤ 8388608) (hk2 : k2 ≤ 8388608) : ∀ w u, Rv A D k1 k2 u w → Calls Tryz.prog 8 #[u] w (Gives (IS (.bool (decide (0 < D.sign)))) w) := fun w u h => rvalid_w w A D k1 k2 u h hk1 hk2

/-- What is said of a fraction and its lowest terms. -/
theorem fr {P : Int} {Y : Nat} {n : Int} {d : Nat} (e1 : nR P Y = n) (e2 : dR P Y = d) : n * (Y : Int) = P * (d : Int) := by rw [← e1, ← e2]; exact nR_mul P Y
end Go.Proofs.YtgalppimdmjdcabGreatDoor

/-
  More of the document's rationals and of the laws' questions, in the form that the logic of statements takes.
-/
namespace Go.Proofs.YtgalppimdmjdcabGreatDoor
open Go Go.RowKit Nt
set_option linter.unusedSimpArgs false
set_option linter.unusedVariables false
set_option maxRecDepth 20000

theorem g_rmake {A : Int} {D k k' : Nat} (hD : D ≠ 0) (hk : k ≤ 67108864) (hk' : k' ≤ 67108864) : ∀ w u v, Zv A k u w → Zv (D : Int) k' v w → Calls Tryz.prog 55 #[u, v] w (Gives (RN (nR A D) (dR A D)) w) := by
  rintro w u v ⟨s, p, n, c, xs, rfl, h, rfl, hn⟩ ⟨t, q, m, d, ys, rfl, h', eD, hm⟩
  obtain ⟨rfl, rfl⟩ := zv_pos eD hD
  rw [nR_sg, dR_sg]
  exact rt_gives (rmake_c w s p q n c m d xs ys h h' hD (by omega) (by omega))
theorem g_rofr {A : Int} {k : Nat} (hk : k ≤ 67108864) : ∀ w u, Zv A k u w → Calls Tryz.prog 52 #[u] w (Gives (RN A 1) w) := by
  rintro w u ⟨s, p, n, c, xs, rfl, h, rfl, hn⟩
  exact rt_gives (rof_c w s p n c xs h (by omega))
end Go.Proofs.YtgalppimdmjdcabGreatDoor
