/-
 The calls of zint and of the document that the layers of lists want, in the logic's form.
-/
import Derived.Test.YtnhfpekpdephjaaGreatSetQ
import Derived.Test.YtnhfpekpdephjaaGreatSetE
import Derived.Test.YtnhfpekpdephjaaGreatSetX
namespace Go.Proofs.YtnhfpekpdephjaaGreat
open Go Go.RowKit Nt
set_option linter.unusedSimpArgs false
set_option linter.unusedVariables false
set_option maxRecDepth 20000

theorem h_zsign {A : Int} {k : Nat} (hk : k ≤ 70368744177664) : ∀ w u, Zv A k u w → CG 17 #[u] w (IS (.int .i64 A.sign)) := by
 rintro w u ⟨s, p, n, c, xs, rfl, h, rfl, hn⟩
 refine (zsign_c w s p n c xs h (by omega)).mono ?_
 rintro e w' ⟨rfl, hb⟩
 exact ⟨_, rfl, hb, rfl⟩
theorem h_zcmp {A B : Int} {ka kb : Nat} (hk : ka ≤ 70368744177664) (hk' : kb ≤ 70368744177664) : ∀ w u v, Zv A ka u w → Zv B kb v w → CG 36 #[u, v] w (IS (.int .i64 (A - B).sign)) := by
 rintro w u v ⟨s, p, n, c, xs, rfl, h, rfl, hn⟩ ⟨t, q, m, d, ys, rfl, h', rfl, hm⟩
 refine (zcompare_c w s t p q n c m d xs ys h h' (by omega) (by omega)).mono ?_
 rintro e w' ⟨rfl, hb⟩
 exact ⟨_, rfl, hb, rfl⟩
end Go.Proofs.YtnhfpekpdephjaaGreat
