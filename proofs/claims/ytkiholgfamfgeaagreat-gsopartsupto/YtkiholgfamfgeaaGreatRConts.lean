/-
  The calls of rat, of the document's rationals and of their laws, in the form that the logic of statements takes.
-/
import Derived.Test.YtkiholgfamfgeaaGreatRsH
import Derived.Test.YtkiholgfamfgeaaGreatSetR
import Derived.Test.YtkiholgfamfgeaaGreatRsG
import Derived.Test.YtkiholgfamfgeaaGreatRsD
import Derived.Test.YtkiholgfamfgeaaGreatRsJ
import Derived.Test.YtkiholgfamfgeaaGreatRsE
import Derived.Test.YtkiholgfamfgeaaGreatSetX
import Derived.Test.YtkiholgfamfgeaaGreatSetE
namespace Go.Proofs.YtkiholgfamfgeaaGreat
open Go Go.RowKit Nt
set_option linter.unusedSimpArgs false
set_option linter.unusedVariables false
set_option maxRecDepth 20000

theorem zv_pos {t : Bool} {ys : List Nat} {D : Nat} (e : sg t (val ys) = (D : Int)) (hD : D ≠ 0) : t = false ∧ val ys = D := by
  cases t
  · simp only [sg, Bool.false_eq_true, if_false] at e
    exact ⟨rfl, by omega⟩
  · simp only [sg, if_true] at e
    omega
theorem rt_gives {w : World} {A : Int} {D k k' f : Nat} {args : Array Value} (h : Calls Tryz.prog f args w (Rt w A D k k')) : Calls Tryz.prog f args w (Gives (RN A D) w) := by
  refine h.mono ?_
  rintro e w' ⟨b1, L1, D1, r1, k1, L2, r2, k2, rfl, hb, s1, s2, hN, hL1, hL2, f1, f2⟩
  have hl := s2.out.len
  refine ⟨_, rfl, hb, _, _, _, _, rfl, nm_zn hN.out s1.out f1.out, nm_zn ⟨?_, ?_, ?_⟩ s2.out f2.out⟩
  · unfold ng; simp
  · rw [Int.natAbs_natCast]
  · exact hl
theorem rte_gives {w : World} {A : Int} {D k k' f : Nat} {args : Array Value} (h : Calls Tryz.prog f args w (RtE w A D k k')) : Calls Tryz.prog f args w (Gives (TWO (RN A D) (IS (.int .i64 0))) w) := by
  refine h.mono ?_
  rintro e w' ⟨b1, L1, D1, r1, k1, L2, r2, k2, rfl, hb, s1, s2, hN, hL1, hL2, f1, f2⟩
  have hl := s2.len
  refine ⟨_, rfl, hb, _, _, rfl, ⟨_, _, _, _, rfl, nm_zn hN s1 f1.out, nm_zn ⟨?_, ?_, ?_⟩ s2 f2.out⟩, rfl⟩
  · unfold ng; simp
  · rw [Int.natAbs_natCast]
  · exact hl

theorem g_ratmake {A : Int} {D k k' : Nat} (hD : D ≠ 0) (hk : k ≤ 67108864) (hk' : k' ≤ 67108864) : ∀ w u v, Zv A k u w → Zv (D : Int) k' v w → Calls Tryz.prog 18 #[u, v] w (Gives (TWO (RN (nR A D) (dR A D)) (IS (.int .i64 0))) w) := by
  rintro w u v ⟨s, p, n, c, xs, rfl, h, rfl, hn⟩ ⟨t, q, m, d, ys, rfl, h', eD, hm⟩
  obtain ⟨rfl, rfl⟩ := zv_pos eD hD
  rw [nR_sg, dR_sg]
  exact rte_gives (ratmake_pos w s p q n c m d xs ys h h' hD (by omega) (by omega))
theorem g_ratof {A : Int} {k : Nat} (hk : k ≤ 67108864) : ∀ w u, Zv A k u w → Calls Tryz.prog 16 #[u] w (Gives (RN A 1) w) := by
  rintro w u ⟨s, p, n, c, xs, rfl, h, rfl, hn⟩
  exact rt_gives (ratof_c w s p n c xs h (by omega))
end Go.Proofs.YtkiholgfamfgeaaGreat
