/-
  Arguments that are intervals of floats: what the row's reading gives.
-/
import Derived.Test.YtgalppimdmjdcabGreatSetL
import Derived.Laws.Cover2
namespace Go.Proofs.YtgalppimdmjdcabGreat
open Go.ChangeShapes Go.WideShapes Go.ChangeAt Go.RowKit Nt
set_option linter.unusedSimpArgs false
set_option linter.unusedVariables false
set_option maxRecDepth 20000

theorem trod_f64 {H : Type} {enc : TypeId × Value → H} {W : World} {cs : List Value} {y : DataW H × List MemPlace} {fuel : Nat} (h : DataW.trod enc Tryz.prog W 0 (fun _ => true) true fuel 22 cs = some y) : ∃ b, cs = [.float .f64 b] ∧ y = (.lit (.float .f64 b), []) ∧ b < 18446744073709551616 := by
  cases fuel with
  | zero => simp [DataW.trod] at h
  | succ n =>
    unfold DataW.trod at h
    rw [Tryz.underlying22] at h
    split at h <;> simp_all
    rename_i k k' b e
    subst e
    simpa [Lit.wf] using h.1.2
theorem arg_ival {H : Type} {enc : TypeId × Value → H} {W : World} {v : Value} {d : DataW H} {p : List MemPlace} {base : Nat}
    (hval : Value.okWide Tryz.prog W .any base 24 v) (h : DataW.Trod enc Tryz.prog W 0 (fun _ => true) true 24 v d p) :
    ∃ x y, v = .agg #[.float .f64 x, .float .f64 y] ∧ x < 18446744073709551616 ∧ y < 18446744073709551616 ∧ d = .agg [.lit (.float .f64 x), .lit (.float .f64 y)] := by
  obtain ⟨cs, rfl, hsz⟩ := okWide_struct Tryz.underlying24 hval
  obtain ⟨w0, w1, rfl⟩ := Go.Joins.array2 (hsz.trans (show Tryz.prog.cellsOf 24 = 2 by kernel_rfl))
  obtain ⟨fuel, hf⟩ := h
  obtain ⟨y0, y1, k, hx, _, h0, h1⟩ := trod_struct2 Tryz.underlying24 hf
  have c0 : Tryz.prog.cellsOf 22 = 1 := by kernel_rfl
  simp only [c0, Value.cells, List.drop_zero, List.take_succ_cons, List.take_zero, List.drop_succ_cons] at h0 h1
  obtain ⟨x, e1, f1, hx1⟩ := trod_f64 h0
  obtain ⟨y, e2, f2, hy1⟩ := trod_f64 h1
  simp at e1 e2
  subst e1 e2
  simp only [Prod.mk.injEq] at hx
  exact ⟨x, y, rfl, hx1, hy1, by rw [hx.1, f1, f2]⟩
end Go.Proofs.YtgalppimdmjdcabGreat
