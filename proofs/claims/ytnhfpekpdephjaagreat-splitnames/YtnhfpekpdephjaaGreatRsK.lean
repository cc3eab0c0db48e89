import Derived.Test.YtnhfpekpdephjaaGreatSetQ
import Derived.Test.YtnhfpekpdephjaaGreatSetP
import Derived.Test.YtnhfpekpdephjaaGreatSetR
import Derived.Test.YtnhfpekpdephjaaGreatRsG
import Derived.Test.YtnhfpekpdephjaaGreatRsD
import Derived.Test.YtnhfpekpdephjaaGreatRsJ
import Derived.Test.YtnhfpekpdephjaaGreatRsE
import Derived.Test.YtnhfpekpdephjaaGreatSetX
import Derived.Test.YtnhfpekpdephjaaGreatSetE
import Derived.Test.YtnhfpekpdephjaaGreatSetG
/-
 The document's power of two, in new memory.
-/
namespace Go.Proofs.YtnhfpekpdephjaaGreat
open Go Go.RowKit Nt
set_option linter.unusedSimpArgs false
set_option linter.unusedVariables false
set_option maxRecDepth 20000

theorem Gives.two {φ φ' ψ : Nat → Pr} {w : World} {f : FuncId} {args : Array Value} (h : CG f args w (TWO φ ψ)) (k : ∀ v w', φ w.heap.size v w' → φ' w.heap.size v w') : CG f args w (TWO φ' ψ) := by
 refine h.mono ?_
 rintro e w' ⟨v, rfl, hb, x, y, rfl, h1, h2⟩
 exact ⟨_, rfl, hb, x, y, rfl, k _ _ h1, h2⟩
end Go.Proofs.YtnhfpekpdephjaaGreat

/-
 Rationals in the logic of statements: what is said of them, the machine's way with their boxes, lists of one and two.
-/
namespace Go.Proofs.YtnhfpekpdephjaaGreat
open Go Go.RowKit Nt
set_option linter.unusedSimpArgs false
set_option linter.unusedVariables false
set_option maxRecDepth 20000

/-- A struct of two numbers. -/
def PR (φ ψ : Pr) : Pr := fun v w => ∃ x0 x1 y0 y1, v = .agg #[x0, x1, y0, y1] ∧ φ (.agg #[x0, x1]) w ∧ ψ (.agg #[y0, y1]) w
def PRF (φ ψ : Nat → Pr) : Nat → Pr := fun lo => PR (φ lo) (ψ lo)
/-- A rational in one form, in new memory. -/
def RN (N : Int) (D : Nat) : Nat → Pr := PRF (ZN N) (ZN (D : Int))
theorem fresh_prf {φ ψ : Nat → Pr} (h : Fresh φ) (h' : Fresh ψ) : Fresh (PRF φ ψ) :=
 ⟨fun lo lo' v w hl ⟨x0, x1, y0, y1, e, a, b⟩ => ⟨x0, x1, y0, y1, e, h.mono _ _ _ _ hl a, h'.mono _ _ _ _ hl b⟩, fun lo v w w' B hB ⟨x0, x1, y0, y1, e, a, b⟩ ev => ⟨x0, x1, y0, y1, e, h.ev _ _ _ _ B hB a ev, h'.ev _ _ _ _ B hB b ev⟩⟩
theorem fresh_rn (N : Int) (D : Nat) : Fresh (RN N D) := fresh_prf (fresh_zn _) (fresh_zn _)
theorem pr_imp {φ ψ φ' ψ' : Pr} (h : ∀ v w, φ v w → φ' v w) (h' : ∀ v w, ψ v w → ψ' v w) : ∀ v w, PR φ ψ v w → PR φ' ψ' v w :=
 fun v w ⟨x0, x1, y0, y1, e, a, b⟩ => ⟨x0, x1, y0, y1, e, h _ _ a, h' _ _ b⟩
/-! Boxes. -/
theorem pair_cells {x0 x1 : Value} {φ : Pr} {w : World} (h : Shp 2 φ) (hφ : φ (.agg #[x0, x1]) w) : x0.oneCell' = true ∧ x1.oneCell' = true := by
 obtain ⟨cs, e, _, h1⟩ := h _ w hφ
 simp only [Value.agg.injEq] at e
 subst e
 simpa using h1
theorem shp_pr {φ ψ : Pr} (h : Shp 2 φ) (h' : Shp 2 ψ) : Shp 4 (PR φ ψ) := fun u w ⟨x0, x1, y0, y1, e, a, b⟩ => by
 have h1 := pair_cells h a
 have h2 := pair_cells h' b
 exact ⟨_, e, rfl, by simp [h1, h2]⟩
theorem shp_r0 : Shp 4 zR := fun u w e => ⟨_, e, rfl, by simp [Value.oneCell']⟩
theorem strct_rat : Strct 35 4 := ⟨⟨_, Tryz.underlying35, rfl⟩, by kernel_rfl⟩
theorem alloc_rat (ρ : Operand → Value) (o : Oper) (w : World) : (execOp ρ { o with op := .alloc 35 }).run Tryz.prog w = .ok (.value (.pointer (some ⟨w.heap.size, 0, none⟩))) (w.alloc (.cells (Value.agg #[.bool false, .slice none 0 0, .bool false, .slice none 0 0]).cells 35 (0, 0))) := by
 unfold execOp
 go_simp
theorem part_rat0 (ρ : Operand → Value) (o : Oper) (x : Operand) (w : World) (b f : Nat) (h : ρ x = .pointer (some ⟨b, f, none⟩)) : (execOp ρ { o with op := .fieldAddr 35 x 0 }).run Tryz.prog w = .ok (.value (.pointer (some ⟨b, f, none⟩))) w := by
 unfold execOp
 go_simp
theorem part_rat1 (ρ : Operand → Value) (o : Oper) (x : Operand) (w : World) (b f : Nat) (h : ρ x = .pointer (some ⟨b, f, none⟩)) : (execOp ρ { o with op := .fieldAddr 35 x 1 }).run Tryz.prog w = .ok (.value (.pointer (some ⟨b, f + 2, none⟩))) w := by
 unfold execOp
 go_simp
/-- A number that lies in the midst of a block. -/
theorem load_mid {ρ : Operand → Value} {o : Oper} {x : Operand} {w : World} {b off : Nat} {x0 x1 : Value} (hx : ρ x = .pointer (some ⟨b, off, none⟩)) (h0 : w.cell? ⟨b, off, none⟩ = some x0) (h1 : w.cell? ⟨b, off + 1, none⟩ = some x1) :
  (execOp ρ { o with op := .load 33 x }).run Tryz.prog w = .ok (.value (.agg #[x0, x1])) w := by
 obtain ⟨⟨d, hu, hd⟩, hi⟩ := strct_int
 unfold execOp
 simp only [hx, Sem.run_bind, run_loadAt_mid (P := Tryz.prog) w b off 33 [x0, x1] d (fun j v hv => by
  match j, hv with
  | 0, hv => simp only [List.getElem?_cons_zero, Option.some.injEq] at hv; subst hv; exact h0
  | 1, hv => simp only [List.getElem?_cons_succ, List.getElem?_cons_zero, Option.some.injEq] at hv; subst hv; exact h1
  | j + 2, hv => simp at hv) hu hd (by rw [hi]; rfl), Result.andThen_ok, Sem.run_pure]
theorem cell_of {w : World} {b i : Nat} {cs : Array Value} {T : TypeId} (h : w.heap[b]? = some (.cells cs T (0, 0))) : w.cell? ⟨b, i, none⟩ = cs[i]? := by simp [World.cell?, h]
theorem pload_den {φ ψ : Pr} (ρ : Operand → Value) (o : Oper) (x : Operand) (w : World) (b : Nat) (u : Value) (hφ : PR φ ψ u w) (hx : ρ x = .pointer (some ⟨b, 2, none⟩)) (hb : w.heap[b]? = some (.cells u.cells 35 (0, 0))) :
  ∃ v, (execOp ρ { o with op := .load 33 x }).run Tryz.prog w = .ok (.value v) w ∧ ∀ w', PR φ ψ u w' → ψ v w' := by
 obtain ⟨x0, x1, y0, y1, rfl, a, b'⟩ := hφ
 refine ⟨.agg #[y0, y1], load_mid hx ((cell_of hb).trans rfl) ((cell_of hb).trans rfl), fun w' h' => ?_⟩
 obtain ⟨a0, a1, b0, b1, e, _, ha⟩ := h'
 simp at e
 rw [e.2.2.1, e.2.2.2]
 exact ha

section
variable {ops : Array Oper} {l : List Kd} {bx : Bxs} {sl : List (Tmp × Pr)} {i : Nat} {o : Oper} {Q : Exit → Act → World → Prop} {a0 : Act} {n : Nat} {w0 : World}
/-- A rational made of two numbers. -/
theorem owe_build2 {x y : Operand} {φ ψ : Pr} (ho : ops[i]? = some o) (hw : Wants ops l bx sl i o) (hop : o.op = .build 35 #[(0, x), (1, y)]) (hx : Opnd ops l bx sl i x φ) (hy : Opnd ops l bx sl i y ψ) (hφ : Shp 2 φ) (hψ : Shp 2 ψ) (hk : kdAt l i = .val (PR φ ψ)) : Owed Tryz.prog ops Q l bx sl a0 n w0 i :=
 owe_val ho hw hk fun vs B a w c => by
  have h1 := hx a0 n w0 vs B a w c
  have h2 := hy a0 n w0 vs B a w c
  obtain ⟨x0, x1, e1⟩ := pair_cases hφ h1.now
  obtain ⟨y0, y1, e2⟩ := pair_cases hψ h2.now
  refine ⟨.agg #[x0, x1, y0, y1], ?_, fun w' e' => ⟨x0, x1, y0, y1, rfl, e1 ▸ h1 w' e', e2 ▸ h2 w' e'⟩⟩
  unfold execOp
  rw [hop]
  clear h1 h2 hx hy
  generalize a.eval = ρ at e1 e2
  go_simp
end
end Go.Proofs.YtnhfpekpdephjaaGreat

/-
 The calls of rat, of the document's rationals and of their laws, in the form that the logic of statements takes.
-/
namespace Go.Proofs.YtnhfpekpdephjaaGreat
open Go Go.RowKit Nt
set_option linter.unusedSimpArgs false
set_option linter.unusedVariables false
set_option maxRecDepth 20000

theorem rt_gives {w : World} {A : Int} {D k k' f : Nat} {args : Array Value} (h : Calls Tryz.prog f args w (Rt w A D k k')) : CG f args w (RN A D) := by
 refine h.mono ?_
 rintro e w' ⟨b1, L1, D1, r1, k1, L2, r2, k2, rfl, hb, s1, s2, hN, hL1, hL2, f1, f2⟩
 have hl := s2.out.len
 refine ⟨_, rfl, hb, _, _, _, _, rfl, nm_zn hN.out s1.out f1.out, nm_zn ⟨?_, ?_, ?_⟩ s2.out f2.out⟩
 ·unfold ng; simp
 ·rw [Int.natAbs_natCast]
 ·exact hl
theorem g_ratof {A : Int} {k : Nat} (hk : k ≤ 67108864) : ∀ w u, Zv A k u w → CG 26 #[u] w (RN A 1) := by
 rintro w u ⟨s, p, n, c, xs, rfl, h, rfl, hn⟩
 exact rt_gives (ratof_c w s p n c xs h (by omega))
end Go.Proofs.YtnhfpekpdephjaaGreat

/-
 rat.fold hands the one rational of a list to a closure; rules for rat.sum and rat.minus.
-/
namespace Go.Proofs.YtnhfpekpdephjaaGreat
open Go Go.RowKit Nt
set_option linter.unusedSimpArgs false
set_option linter.unusedVariables false
set_option maxRecDepth 20000

end Go.Proofs.YtnhfpekpdephjaaGreat

/-
 rat.sum with its closure, rat.minus, rat.Add, rat.Sub.
-/
namespace Go.Proofs.YtnhfpekpdephjaaGreat
open Go Go.RowKit Nt
set_option linter.unusedSimpArgs false
set_option linter.unusedVariables false
set_option maxRecDepth 20000


section
variable {ops : Array Oper} {l : List Kd} {bx : Bxs} {sl : List (Tmp × Pr)} {i : Nat} {o : Oper} {Q : Exit → Act → World → Prop} {a0 : Act} {n : Nat} {w0 : World}
end
end Go.Proofs.YtnhfpekpdephjaaGreat

/-
 Rationals in lowest terms: one form for each, how long it is, what sums, products and quotients make.
-/
namespace Go.Proofs.YtnhfpekpdephjaaGreat
open Go Go.RowKit Nt
set_option linter.unusedSimpArgs false
set_option linter.unusedVariables false
set_option maxRecDepth 20000

theorem nR_mul (P : Int) (Y : Nat) : nR P Y * (Y : Int) = P * (dR P Y : Int) := by
 have h1 := g_nR P Y
 have h2 := g_dR P Y
 have h3 : ((Nat.gcd P.natAbs Y : Nat) : Int) * (dR P Y : Int) = (Y : Int) := by rw [← Int.natCast_mul, h2]
 generalize ((Nat.gcd P.natAbs Y : Nat) : Int) = G at h1 h3
 grind
end Go.Proofs.YtnhfpekpdephjaaGreat

/-
 rat.Add, Sub, Floor, Near; the document's Valid; what the laws ask of rationals.
-/
namespace Go.Proofs.YtnhfpekpdephjaaGreat
open Go Go.RowKit Nt
set_option linter.unusedSimpArgs false
set_option linter.unusedVariables false
set_option maxRecDepth 20000

/-- What is said of a fraction and its lowest terms. -/
theorem fr {P : Int} {Y : Nat} {n : Int} {d : Nat} (e1 : nR P Y = n) (e2 : dR P Y = d) : n * (Y : Int) = P * (d : Int) := by rw [← e1, ← e2]; exact nR_mul P Y
end Go.Proofs.YtnhfpekpdephjaaGreat
