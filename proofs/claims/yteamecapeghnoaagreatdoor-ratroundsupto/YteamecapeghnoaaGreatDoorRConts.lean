/-
  The calls of rat, of the document's rationals and of their laws, in the form that the logic of statements takes.
-/
import Derived.Test.YteamecapeghnoaaGreatDoorSetY
import Derived.Test.YteamecapeghnoaaGreatDoorSetN
import Derived.Test.YteamecapeghnoaaGreatDoorSetG
import Derived.Test.YteamecapeghnoaaGreatDoorROf
import Derived.Test.YteamecapeghnoaaGreatDoorRHalf
import Derived.Test.YteamecapeghnoaaGreatDoorSetH
import Derived.Test.YteamecapeghnoaaGreatDoorSetX
import Derived.Test.YteamecapeghnoaaGreatDoorZSign
namespace Go.Proofs.YteamecapeghnoaaGreatDoor
open Go Go.RowKit Nt
set_option linter.unusedSimpArgs false
set_option linter.unusedVariables false
set_option maxRecDepth 20000

theorem zv_pos {t : Bool} {ys : List Nat} {D : Nat} (e : sg t (val ys) = (D : Int)) (hD : D ≠ 0) : t = false ∧ val ys = D := by
  cases t
  · simp only [sg, Bool.false_eq_true, if_false] at e
    exact ⟨rfl, by omega⟩
  · simp only [sg, if_true] at e
    omega
theorem rt_gives {w : World} {A : Int} {D k k' f : Nat} {args : Array Value} (h : Calls Tryz.prog f args w (Rt w A D k k')) : Calls Tryz.prog f args w (Gives (RN A D) w) := by
  refine h.mono ?_
  rintro e w' ⟨b1, L1, D1, r1, k1, L2, r2, k2, rfl, hb, s1, s2, hN, hL1, hL2, f1, f2⟩
  have hl := s2.out.len
  refine ⟨_, rfl, hb, _, _, _, _, rfl, nm_zn hN.out s1.out f1.out, nm_zn ⟨?_, ?_, ?_⟩ s2.out f2.out⟩
  · unfold ng; simp
  · rw [Int.natAbs_natCast]
  · exact hl
theorem rte_gives {w : World} {A : Int} {D k k' f : Nat} {args : Array Value} (h : Calls Tryz.prog f args w (RtE w A D k k')) : Calls Tryz.prog f args w (Gives (TWO (RN A D) (IS (.int .i64 0))) w) := by
  refine h.mono ?_
  rintro e w' ⟨b1, L1, D1, r1, k1, L2, r2, k2, rfl, hb, s1, s2, hN, hL1, hL2, f1, f2⟩
  have hl := s2.len
  refine ⟨_, rfl, hb, _, _, rfl, ⟨_, _, _, _, rfl, nm_zn hN s1 f1.out, nm_zn ⟨?_, ?_, ?_⟩ s2 f2.out⟩, rfl⟩
  · unfold ng; simp
  · rw [Int.natAbs_natCast]
  · exact hl

/-! zint. -/
theorem g_zneg {A : Int} {k : Nat} (hk : k ≤ 70368744177664) : ∀ w u, Zv A k u w → Calls Tryz.prog 44 #[u] w (Gives (ZN (-A)) w) := by
  rintro w u ⟨s, p, n, c, xs, rfl, h, rfl, hn⟩
  refine (zneg_c w s p n c xs h (by omega)).mono ?_
  rintro e w' ⟨r, cr, rfl, Z⟩
  exact za_gives Z
theorem g_zform {A : Int} {k : Nat} (hk : k ≤ 70368744177664) : ∀ w u, Zv A k u w → Calls Tryz.prog 64 #[u] w (Gives (ZN A) w) := by
  rintro w u ⟨s, p, n, c, xs, rfl, h, rfl, hn⟩
  refine (zform_c w s p n c xs h (by omega)).mono ?_
  rintro e w' ⟨r, cr, rfl, Z⟩
  exact za_gives Z
theorem g_zabs {A : Int} {k : Nat} (hk : k ≤ 70368744177664) : ∀ w u, Zv A k u w → Calls Tryz.prog 33 #[u] w (Gives (ZN (A.natAbs : Int)) w) := by
  rintro w u ⟨s, p, n, c, xs, rfl, h, rfl, hn⟩
  refine (zabs_c w s p n c xs h (by omega)).mono ?_
  rintro e w' ⟨r, cr, rfl, Z⟩
  rw [sg_abs]
  exact za_gives Z
theorem g_zsgn {A : Int} {k : Nat} (hk : k ≤ 70368744177664) : ∀ w u, Zv A k u w → Calls Tryz.prog 58 #[u] w (Gives (IS (.int .i64 A.sign)) w) := by
  rintro w u ⟨s, p, n, c, xs, rfl, h, rfl, hn⟩
  refine (zsign_c w s p n c xs h (by omega)).mono ?_
  rintro e w' ⟨rfl, hb⟩
  exact ⟨_, rfl, hb, rfl⟩

/-! rat. -/
theorem g_lowest {A : Int} {D k k' : Nat} (hD : D ≠ 0) (hk : k ≤ 67108864) (hk' : k' ≤ 67108864) : ∀ w u v, Zv A k u w → Zv (D : Int) k' v w → Calls Tryz.prog 43 #[u, v] w (Gives (RN (nR A D) (dR A D)) w) := by
  rintro w u v ⟨s, p, n, c, xs, rfl, h, rfl, hn⟩ ⟨t, q, m, d, ys, rfl, h', eD, hm⟩
  obtain ⟨rfl, rfl⟩ := zv_pos eD hD
  rw [nR_sg, dR_sg]
  exact rt_gives (lowest_c w s p q n c m d xs ys h h' hD (by omega) (by omega))
theorem g_ratof {A : Int} {k : Nat} (hk : k ≤ 67108864) : ∀ w u, Zv A k u w → Calls Tryz.prog 32 #[u] w (Gives (RN A 1) w) := by
  rintro w u ⟨s, p, n, c, xs, rfl, h, rfl, hn⟩
  exact rt_gives (ratof_c w s p n c xs h (by omega))
theorem g_maybe1 {A D : Int} {k k' lo : Nat} (hk : k' ≤ 67108864) : ∀ w u, RL1 (Rv A D k k') lo u w → Calls Tryz.prog 29 #[u] w (Gives (IS (.bool (decide (0 < D.sign)))) w) := by
  rintro w u ⟨g, x0, x1, y0, y1, rfl, _, hg, a0, a1, b0, b1, e, ⟨s, p, n, c, xs, ea, h, rfl, hn⟩, ⟨t, q, m, d, ys, eb, h', rfl, hm⟩⟩
  simp at e ea eb
  obtain ⟨rfl, rfl, rfl, rfl⟩ := e
  obtain ⟨rfl, rfl⟩ := ea
  obtain ⟨rfl, rfl⟩ := eb
  refine (mayBe1 w g s p n c t q m d ys hg h' (by omega) _ rfl).mono ?_
  rintro e w' ⟨rfl, hb⟩
  exact ⟨_, rfl, hb, rfl⟩
theorem g_maybe2 {A D N M : Int} {k1 k2 k3 k4 lo : Nat} (hk : k2 ≤ 67108864) (hk' : k4 ≤ 67108864) : ∀ w u, RL2 (Rv A D k1 k2) (Rv N M k3 k4) lo u w → Calls Tryz.prog 29 #[u] w (Gives (IS (.bool (decide (0 < D.sign) && decide (0 < M.sign)))) w) := by
  rintro w u ⟨g, x0, x1, y0, y1, z0, z1, u0, u1, rfl, _, hg, ⟨a0, a1, b0, b1, e, ⟨s, p, n, c, xs, ea, h, rfl, hn⟩, ⟨t, q, m, d, ys, eb, h', rfl, hm⟩⟩, ⟨a0', a1', b0', b1', e', ⟨s', p', n', c', xs', ea', h2, rfl, hn'⟩, ⟨t', q', m', d', ys', eb', h2', rfl, hm'⟩⟩⟩
  simp at e ea eb e' ea' eb'
  obtain ⟨rfl, rfl, rfl, rfl⟩ := e
  obtain ⟨rfl, rfl⟩ := ea
  obtain ⟨rfl, rfl⟩ := eb
  obtain ⟨rfl, rfl, rfl, rfl⟩ := e'
  obtain ⟨rfl, rfl⟩ := ea'
  obtain ⟨rfl, rfl⟩ := eb'
  refine (mayBe2 w g s p n c t q m d s' p' n' c' t' q' m' d' ys ys' hg h' h2' (by omega) (by omega) _ rfl).mono ?_
  rintro e w' ⟨rfl, hb⟩
  exact ⟨_, rfl, hb, rfl⟩
theorem rl1_imp {φ φ' : Pr} {lo : Nat} (h : ∀ v w, φ v w → φ' v w) : ∀ v w, RL1 φ lo v w → RL1 φ' lo v w := fun v w ⟨g, x0, x1, y0, y1, e, hl, hg, a⟩ => ⟨g, x0, x1, y0, y1, e, hl, hg, h _ _ a⟩
theorem rl2_imp {φ φ' ψ ψ' : Pr} {lo : Nat} (h : ∀ v w, φ v w → φ' v w) (h' : ∀ v w, ψ v w → ψ' v w) : ∀ v w, RL2 φ ψ lo v w → RL2 φ' ψ' lo v w := fun v w ⟨g, x0, x1, y0, y1, z0, z1, u0, u1, e, hl, hg, a, b⟩ => ⟨g, x0, x1, y0, y1, z0, z1, u0, u1, e, hl, hg, h _ _ a, h' _ _ b⟩
/-- Divided by a number of either sign. -/
def dvN (A N : Int) (M : Nat) : Int := sw (ng N) (A * (M : Int))
/-! The document's. -/
theorem g_rradd {A N : Int} {D M k1 k2 k3 k4 : Nat} (hD : D ≠ 0) (hM : M ≠ 0) (b1 : k1 ≤ 8388608) (b2 : k2 ≤ 8388608) (b3 : k3 ≤ 8388608) (b4 : k4 ≤ 8388608) : ∀ w u v, Rv A (D : Int) k1 k2 u w → Rv N (M : Int) k3 k4 v w → Calls Tryz.prog 10 #[u, v] w (Gives (RN (nR (A * (M : Int) + N * (D : Int)) (D * M)) (dR (A * (M : Int) + N * (D : Int)) (D * M))) w) := by
  rintro w u v ⟨x0, x1, y0, y1, rfl, ⟨s, p, n, c, xs, ea, h, rfl, hn⟩, ⟨t, q, m, d, ys, eb, h', eD, hm⟩⟩ ⟨z0, z1, u0, u1, rfl, ⟨s', p', n', c', xs', ea', h2, rfl, hn'⟩, ⟨t', q', m', d', ys', eb', h2', eM, hm'⟩⟩
  simp at ea eb ea' eb'
  obtain ⟨rfl, rfl⟩ := ea
  obtain ⟨rfl, rfl⟩ := eb
  obtain ⟨rfl, rfl⟩ := ea'
  obtain ⟨rfl, rfl⟩ := eb'
  obtain ⟨rfl, rfl⟩ := zv_pos eD hD
  obtain ⟨rfl, rfl⟩ := zv_pos eM hM
  exact rt_gives (rradd_c w s p n c xs q m d ys s' p' n' c' xs' q' m' d' ys' h h' h2 h2' hD hM _ _ rfl rfl (by omega) (by omega) (by omega) (by omega))
/-- The document's difference is the sum with the negative, brought into lowest terms first. -/
theorem g_rrsub {A N : Int} {D M k1 k2 k3 k4 : Nat} (hD : D ≠ 0) (hM : M ≠ 0) (b1 : k1 ≤ 8388608) (b2 : k2 ≤ 8388608) (b3 : k3 ≤ 8388608) (b4 : k4 ≤ 8388608) : ∀ w u v, Rv A (D : Int) k1 k2 u w → Rv N (M : Int) k3 k4 v w → Calls Tryz.prog 11 #[u, v] w (Gives (RN (nR (A * (dR (-N) M : Nat) + nR (-N) M * (D : Int)) (D * dR (-N) M)) (dR (A * (dR (-N) M : Nat) + nR (-N) M * (D : Int)) (D * dR (-N) M))) w) := by
  rintro w u v ⟨x0, x1, y0, y1, rfl, ⟨s, p, n, c, xs, ea, h, rfl, hn⟩, ⟨t, q, m, d, ys, eb, h', eD, hm⟩⟩ ⟨z0, z1, u0, u1, rfl, ⟨s', p', n', c', xs', ea', h2, rfl, hn'⟩, ⟨t', q', m', d', ys', eb', h2', eM, hm'⟩⟩
  simp at ea eb ea' eb'
  obtain ⟨rfl, rfl⟩ := ea
  obtain ⟨rfl, rfl⟩ := eb
  obtain ⟨rfl, rfl⟩ := ea'
  obtain ⟨rfl, rfl⟩ := eb'
  obtain ⟨rfl, rfl⟩ := zv_pos eD hD
  obtain ⟨rfl, rfl⟩ := zv_pos eM hM
  exact rt_gives (rrsub_c w s p n c xs q m d ys s' p' n' c' xs' q' m' d' ys' h h' h2 h2' hD hM _ _ rfl rfl (by omega) (by omega) (by omega) (by omega))

/-! The laws'. -/
theorem g_same {N : Int} {D lo lo' : Nat} : ∀ w u v, RN N D lo u w → RN N D lo' v w → Calls Tryz.prog 8 #[u, v] w (Gives (IS (.bool true)) w) := by
  rintro w u v ⟨x0, x1, y0, y1, rfl, ⟨r, c, ea, h, _⟩, ⟨r', c', eb, h', _⟩⟩ ⟨z0, z1, u0, u1, rfl, ⟨r2, c2, ea', h2, _⟩, ⟨r2', c2', eb', h2', _⟩⟩
  simp at ea eb ea' eb'
  obtain ⟨rfl, rfl⟩ := ea
  obtain ⟨rfl, rfl⟩ := eb
  obtain ⟨rfl, rfl⟩ := ea'
  obtain ⟨rfl, rfl⟩ := eb'
  rw [Int.natAbs_natCast] at h' h2'
  refine (rsame_c w _ _ r r2 r' r2' _ c _ c2 _ c' _ c2' _ _ h h2 h' h2').mono ?_
  rintro e w' ⟨rfl, hb⟩
  exact ⟨_, rfl, hb, rfl⟩
theorem g_awake : ∀ w, Calls Tryz.prog 9 #[] w (Gives (IS (.bool true)) w) := fun w => by
  refine (rawake_c w).mono ?_
  rintro e w' ⟨rfl, hb⟩
  exact ⟨_, rfl, hb, rfl⟩
end Go.Proofs.YteamecapeghnoaaGreatDoor
