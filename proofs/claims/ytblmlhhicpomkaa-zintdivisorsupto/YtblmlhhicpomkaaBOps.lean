/-
  zint's Abs and Sign in the logic's form.
-/
import Derived.Test.YtblmlhhicpomkaaConts
import Derived.Test.YtblmlhhicpomkaaGcd
import Derived.Test.YtblmlhhicpomkaaRefGcd
namespace Go.Proofs.Ytblmlhhicpomkaa
open Go Go.RowKit Nt
set_option linter.unusedVariables false

theorem g_zabsB {A : Int} {k : Nat} (hk : k ≤ 70368744177664) : ∀ w u, Zv A k u w → Calls Try.prog 15 #[u] w (Gives (ZN (A.natAbs : Int)) w) := by
  rintro w u ⟨s, p, n, c, xs, rfl, h, rfl, hn⟩
  refine (zabs_c w s p n c xs h (by omega)).mono ?_
  rintro e w' ⟨r, cr, rfl, Z⟩
  rw [sg_abs]
  exact za_gives Z
theorem g_zsignB {A : Int} {k : Nat} (hk : k ≤ 70368744177664) : ∀ w u, Zv A k u w → Calls Try.prog 14 #[u] w (Gives (IS (.int .i64 A.sign)) w) := by
  rintro w u ⟨s, p, n, c, xs, rfl, h, rfl, hn⟩
  refine (zsign_c w s p n c xs h (by omega)).mono ?_
  rintro e w' ⟨rfl, hb⟩
  exact ⟨_, rfl, hb, rfl⟩
theorem g_rabsB {A : Int} {k : Nat} (hk : k ≤ 35184372088832) : ∀ w u, Zv A k u w → Calls Try.prog 23 #[u] w (Gives (ZN (A.natAbs : Int)) w) := by
  rintro w u ⟨s, p, n, c, xs, rfl, h, rfl, hn⟩
  rw [sg_abs]
  refine (zrabs_c w s p n c xs h (by omega)).mono ?_
  rintro e w' ⟨r, cr, rfl, Z⟩
  exact za_gives Z
theorem g_rnormB {A : Int} {k : Nat} (hk : k ≤ 35184372088832) : ∀ w u, Zv A k u w → Calls Try.prog 25 #[u] w (Gives (ZN A) w) := by
  rintro w u ⟨s, p, n, c, xs, rfl, h, rfl, hn⟩
  refine (zrnorm_c w s p n c xs h (by omega)).mono ?_
  rintro e w' ⟨r, cr, rfl, Z⟩
  exact za_gives Z
theorem g_ngcd {x y ka kb : Nat} (hk : ka + 1 ≤ 70368744177664) (hk' : kb + 1 ≤ 70368744177664) : ∀ w u v, Nv x ka u w → Nv y kb v w → Calls Try.prog 11 #[u, v] w (Gives (NN (Nat.gcd x y)) w) := by
  rintro w u v ⟨p, n, c, xs, rfl, h, rfl, hn⟩ ⟨q, m, d, ys, rfl, h', rfl, hm⟩
  refine (gcd_c w p q n c m d xs ys h h' (by omega) (by omega)).mono ?_
  rintro e w' ⟨r, cr, rfl, R⟩
  exact ⟨_, rfl, R.below, res_nn R⟩
theorem g_rgcdB {x y ka kb : Nat} (hk : ka + 1 ≤ 35184372088831) (hk' : kb + 1 ≤ 35184372088831) : ∀ w u v, Nv x ka u w → Nv y kb v w → Calls Try.prog 13 #[u, v] w (Gives (NN (Nat.gcd x y)) w) := by
  rintro w u v ⟨p, n, c, xs, rfl, h, rfl, hn⟩ ⟨q, m, d, ys, rfl, h', rfl, hm⟩
  refine (rgcd_c w p q n c m d xs ys h h' (by omega) (by omega)).mono ?_
  rintro e w' ⟨r, cr, rfl, A⟩
  exact ⟨_, rfl, A.below, ans_nn A⟩
theorem g_zformB {A : Int} {k : Nat} (hk : k ≤ 70368744177664) : ∀ w u, Zv A k u w → Calls Try.prog 41 #[u] w (Gives (ZN A) w) := by
  rintro w u ⟨s, p, n, c, xs, rfl, h, rfl, hn⟩
  refine (zform_c w s p n c xs h (by omega)).mono ?_
  rintro e w' ⟨r, cr, rfl, Z⟩
  exact za_gives Z
end Go.Proofs.Ytblmlhhicpomkaa
