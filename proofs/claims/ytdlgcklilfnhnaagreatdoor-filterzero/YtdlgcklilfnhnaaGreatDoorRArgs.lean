/-
  Arguments that are rationals: what the row's reading gives.
-/
import Derived.Test.YtdlgcklilfnhnaaGreatDoorSetL
namespace Go.Proofs.YtdlgcklilfnhnaaGreatDoor
open Go.ChangeShapes Go.WideShapes Go.ChangeAt Go.RowKit Nt
set_option linter.unusedSimpArgs false
set_option linter.unusedVariables false
set_option maxRecDepth 20000

theorem cells_int {H : Type} {enc : TypeId × Value → H} {W : World} {v0 v1 : Value} {y : DataW H × List MemPlace} {fuel : Nat}
    (hf : DataW.trod enc Tryz.prog W 0 (fun _ => true) true fuel 25 [v0, v1] = some y) :
    ∃ s a n c xs d1, v0 = .bool s ∧ v1 = .slice a n c ∧ Sl W a n c xs ∧ y.1 = .agg [.lit (.bool s), d1] ∧ Reads d1 c := by
  obtain ⟨y0, y1, k, hx, _, h0, h1⟩ := trod_struct2 Tryz.underlying25 hf
  have c0 : Tryz.prog.cellsOf 4 = 1 := by kernel_rfl
  have c1 : Tryz.prog.cellsOf 23 = 1 := by kernel_rfl
  simp only [c0, c1, List.drop_zero, List.take_succ_cons, List.take_zero, List.drop_succ_cons] at h0 h1
  obtain ⟨b, hb, rfl⟩ := DataW.trod_bool Tryz.underlying4 h0
  simp at hb
  subst hb
  obtain ⟨a, n, c, xs, rfl, hs, hr⟩ := arg_limbs h1
  exact ⟨b, a, n, c, xs, y1.1, rfl, rfl, hs, by rw [hx], hr⟩

theorem arg_rat {H : Type} {enc : TypeId × Value → H} {W : World} {v : Value} {d : DataW H} {p : List MemPlace} {base : Nat}
    (hval : Value.okWide Tryz.prog W .any base 27 v) (h : DataW.Trod enc Tryz.prog W 0 (fun _ => true) true 27 v d p) :
    ∃ s a n c xs t b m e ys d1 d2, v = .agg #[.bool s, .slice a n c, .bool t, .slice b m e] ∧ Sl W a n c xs ∧ Sl W b m e ys ∧ d = .agg [.agg [.lit (.bool s), d1], .agg [.lit (.bool t), d2]] ∧ Reads d1 c ∧ Reads d2 e := by
  obtain ⟨cs, rfl, hsz⟩ := okWide_struct Tryz.underlying27 hval
  obtain ⟨w0, w1, w2, w3, rfl⟩ := Go.Joins.array4 (hsz.trans (show Tryz.prog.cellsOf 27 = 4 by kernel_rfl))
  obtain ⟨fuel, hf⟩ := h
  obtain ⟨y0, y1, k, hx, _, h0, h1⟩ := trod_struct2 Tryz.underlying27 hf
  have c0 : Tryz.prog.cellsOf 25 = 2 := by kernel_rfl
  simp only [c0, Value.cells, List.drop_zero, List.take_succ_cons, List.take_zero, List.drop_succ_cons] at h0 h1
  obtain ⟨s, a, n, c, xs, d1, rfl, rfl, s1, e1, r1⟩ := cells_int h0
  obtain ⟨t, b, m, e, ys, d2, rfl, rfl, s2, e2, r2⟩ := cells_int h1
  simp only [Prod.mk.injEq] at hx
  exact ⟨s, a, n, c, xs, t, b, m, e, ys, d1, d2, rfl, s1, s2, by rw [hx.1, e1, e2], r1, r2⟩
end Go.Proofs.YtdlgcklilfnhnaaGreatDoor
