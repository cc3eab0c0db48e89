/-
  zint's Abs and Sign in the logic's form.
-/
import Derived.Test.YtblmlhhicpomkaaDoorConts
import Derived.Test.YtblmlhhicpomkaaDoorGcd
import Derived.Test.YtblmlhhicpomkaaDoorRefGcd
namespace Go.Proofs.YtblmlhhicpomkaaDoor
open Go Go.RowKit Nt
set_option linter.unusedVariables false

theorem g_zabsB {A : Int} {k : Nat} (hk : k ≤ 70368744177664) : ∀ w u, Zv A k u w → Calls Tryd.prog 13 #[u] w (Gives (ZN (A.natAbs : Int)) w) := by
  rintro w u ⟨s, p, n, c, xs, rfl, h, rfl, hn⟩
  refine (zabs_c w s p n c xs h (by omega)).mono ?_
  rintro e w' ⟨r, cr, rfl, Z⟩
  rw [sg_abs]
  exact za_gives Z
theorem g_zsignB {A : Int} {k : Nat} (hk : k ≤ 70368744177664) : ∀ w u, Zv A k u w → Calls Tryd.prog 7 #[u] w (Gives (IS (.int .i64 A.sign)) w) := by
  rintro w u ⟨s, p, n, c, xs, rfl, h, rfl, hn⟩
  refine (zsign_c w s p n c xs h (by omega)).mono ?_
  rintro e w' ⟨rfl, hb⟩
  exact ⟨_, rfl, hb, rfl⟩
theorem g_zformB {A : Int} {k : Nat} (hk : k ≤ 70368744177664) : ∀ w u, Zv A k u w → Calls Tryd.prog 11 #[u] w (Gives (ZN A) w) := by
  rintro w u ⟨s, p, n, c, xs, rfl, h, rfl, hn⟩
  refine (zform_c w s p n c xs h (by omega)).mono ?_
  rintro e w' ⟨r, cr, rfl, Z⟩
  exact za_gives Z
theorem g_zcmpB {A B : Int} {ka kb : Nat} (hk : ka ≤ 70368744177664) (hk' : kb ≤ 70368744177664) : ∀ w u v, Zv A ka u w → Zv B kb v w → Calls Tryd.prog 12 #[u, v] w (Gives (IS (.int .i64 (A - B).sign)) w) := by
  rintro w u v ⟨s, p, n, c, xs, rfl, h, rfl, hn⟩ ⟨t, q, m, d, ys, rfl, h', rfl, hm⟩
  refine (zcompare_c w s t p q n c m d xs ys h h' (by omega) (by omega)).mono ?_
  rintro e w' ⟨rfl, hb⟩
  exact ⟨_, rfl, hb, rfl⟩
end Go.Proofs.YtblmlhhicpomkaaDoor
