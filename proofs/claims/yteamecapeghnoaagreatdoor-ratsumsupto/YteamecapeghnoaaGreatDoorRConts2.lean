/-
  More of the document's rationals and of the laws' questions, in the form that the logic of statements takes.
-/
import Derived.Test.YteamecapeghnoaaGreatDoorSetS
namespace Go.Proofs.YteamecapeghnoaaGreatDoor
open Go Go.RowKit Nt
set_option linter.unusedSimpArgs false
set_option linter.unusedVariables false
set_option maxRecDepth 20000

theorem g_rmake {A : Int} {D k k' : Nat} (hD : D ≠ 0) (hk : k ≤ 67108864) (hk' : k' ≤ 67108864) : ∀ w u v, Zv A k u w → Zv (D : Int) k' v w → Calls Tryz.prog 26 #[u, v] w (Gives (RN (nR A D) (dR A D)) w) := by
  rintro w u v ⟨s, p, n, c, xs, rfl, h, rfl, hn⟩ ⟨t, q, m, d, ys, rfl, h', eD, hm⟩
  obtain ⟨rfl, rfl⟩ := zv_pos eD hD
  rw [nR_sg, dR_sg]
  exact rt_gives (rmake_c w s p q n c m d xs ys h h' hD (by omega) (by omega))
theorem nR_neg (A : Int) (D : Nat) : nR (-A) D = - nR A D := by
  unfold nR
  rw [Int.natAbs_neg]
  by_cases h0 : A = 0
  · subst h0; simp [sg]
  · have e : ng (-A) = !(ng A) := by
      unfold ng
      rcases Int.lt_or_gt_of_ne h0 with h | h
      · rw [decide_eq_false (by omega), decide_eq_true h]; rfl
      · rw [decide_eq_true (by omega), decide_eq_false (by omega)]; rfl
    rw [e, sg_not]
theorem dR_neg (A : Int) (D : Nat) : dR (-A) D = dR A D := by unfold dR; rw [Int.natAbs_neg]
theorem g_rrneg {A : Int} {D k k' : Nat} (hD : D ≠ 0) (hk : k ≤ 67108864) (hk' : k' ≤ 67108864) : ∀ w u, Rv A (D : Int) k k' u w → Calls Tryz.prog 28 #[u] w (Gives (RN (nR (-A) D) (dR (-A) D)) w) := by
  rintro w u ⟨x0, x1, y0, y1, rfl, ⟨s, p, n, c, xs, ea, h, rfl, hn⟩, ⟨t, q, m, d, ys, eb, h', eD, hm⟩⟩
  simp at ea eb
  obtain ⟨rfl, rfl⟩ := ea
  obtain ⟨rfl, rfl⟩ := eb
  obtain ⟨rfl, rfl⟩ := zv_pos eD hD
  have := rt_gives (rneg_c w s p q n c m d xs ys h h' hD (by omega) (by omega))
  first
    | exact this
    | (refine Gives.cast this ?_
       rw [← sg_not, nR_sg, dR_sg])
theorem g_rofr {A : Int} {k : Nat} (hk : k ≤ 67108864) : ∀ w u, Zv A k u w → Calls Tryz.prog 38 #[u] w (Gives (RN A 1) w) := by
  rintro w u ⟨s, p, n, c, xs, rfl, h, rfl, hn⟩
  exact rt_gives (rof_c w s p n c xs h (by omega))
theorem g_rone : ∀ w, Calls Tryz.prog 66 #[] w (Gives (ZN 1) w) := fun w => by
  refine (rone_c w).mono ?_
  rintro e w' ⟨r, cr, rfl, Z⟩
  exact za_gives Z
theorem g_whole {z : Int} {lo lo' : Nat} : ∀ w u v, ZN z lo u w → ZN z lo' v w → Calls Tryz.prog 16 #[u, v] w (Gives (IS (.bool true)) w) := by
  rintro w u v ⟨r, c, rfl, h, _⟩ ⟨r', c', rfl, h', _⟩
  refine (whole_c w _ r r' _ c _ c' _ h h').mono ?_
  rintro e w' ⟨rfl, hb⟩
  exact ⟨_, rfl, hb, rfl⟩
theorem g_whole0 : ∀ w u v, Is (.agg #[.bool false, .slice none 0 0]) u w → Is (.agg #[.bool false, .slice none 0 0]) v w → Calls Tryz.prog 16 #[u, v] w (Gives (IS (.bool true)) w) := by
  rintro w u v rfl rfl
  refine (whole_c w _ _ _ _ _ _ _ _ (Sl.none w) (Sl.none w)).mono ?_
  rintro e w' ⟨rfl, hb⟩
  exact ⟨_, rfl, hb, rfl⟩
theorem g_same0 : ∀ w u v, Is (.agg #[.bool false, .slice none 0 0, .bool false, .slice none 0 0]) u w → Is (.agg #[.bool false, .slice none 0 0, .bool false, .slice none 0 0]) v w → Calls Tryz.prog 8 #[u, v] w (Gives (IS (.bool true)) w) := by
  rintro w u v rfl rfl
  refine (rsame_c w _ _ _ _ _ _ _ _ _ _ _ _ _ _ _ _ (Sl.none w) (Sl.none w) (Sl.none w) (Sl.none w)).mono ?_
  rintro e w' ⟨rfl, hb⟩
  exact ⟨_, rfl, hb, rfl⟩

/-! Rounded. -/
theorem fl_scale {P : Int} {G D : Nat} (hG : G ≠ 0) (hD : D ≠ 0) : fl ((G : Int) * P) ((G * D : Nat) : Int) = fl P (D : Int) := by
  have iD : (D : Int) ≠ 0 := by omega
  obtain ⟨e, h1, _⟩ := rm_bounds (A := P) iD
  have h1 := h1 (by omega)
  obtain ⟨r, hr⟩ : ∃ r, rm P (D : Int) = r := ⟨_, rfl⟩
  obtain ⟨q, hq⟩ : ∃ q, fl P (D : Int) = q := ⟨_, rfl⟩
  rw [hr] at h1
  rw [hq, hr] at e
  rw [hq]
  have gp : (0 : Int) < (G : Int) := by omega
  have m1 : (G : Int) * r < (G : Int) * (D : Int) := Int.mul_lt_mul_of_pos_left h1.2 gp
  have m0 : 0 ≤ (G : Int) * r := Int.mul_nonneg (by omega) h1.1
  have mD : 0 < (G : Int) * (D : Int) := Int.mul_pos gp (by omega)
  refine (fl_unique (r := (G : Int) * r) ?_ ?_ (fun hp => ?_) (fun hp => ?_)).1
  · rw [Int.natCast_mul]; omega
  · rw [Int.natCast_mul, e]; grind
  · rw [Int.natCast_mul]; omega
  · rw [Int.natCast_mul] at hp; omega
theorem fl_low {P : Int} {Y : Nat} (hY : Y ≠ 0) : fl (nR P Y) (dR P Y : Int) = fl P (Y : Int) := by
  have hg : Nat.gcd P.natAbs Y ≠ 0 := fun e => hY (Nat.eq_zero_of_gcd_eq_zero_right e)
  have := fl_scale (P := nR P Y) hg (dR_ne (X := P) hY)
  rw [g_nR, g_dR] at this
  exact this.symm
theorem low_twice {P : Int} {Y : Nat} (hY : Y ≠ 0) : nR (nR P Y) (dR P Y) = nR P Y ∧ dR (nR P Y) (dR P Y) = dR P Y := low_one (dR_ne hY) hY (nR_mul P Y)
end Go.Proofs.YteamecapeghnoaaGreatDoor
