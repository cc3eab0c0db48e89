/-
  Lists of numbers in the logic of statements: their length, their elements.
-/
import Derived.Test.YtdhjgekbocnnkaaDoorSetL
import Derived.Test.YtdhjgekbocnnkaaDoorSetQ
namespace Go.Proofs.YtdhjgekbocnnkaaDoor
open Go Go.RowKit Nt
set_option linter.unusedSimpArgs false
set_option linter.unusedVariables false
set_option maxRecDepth 20000

/-- A list that came in. -/
def Lx (p : Option Addr) (n c : Nat) (es : List El) : Pr := fun v w => v = .slice p n c ∧ Ls w p n c es
theorem cell_ev {w w' : World} {a : Addr} {v : Value} (h : w.cell? a = some v) (e : Ev (fun _ => False) w w') : w'.cell? a = some v := by
  have hlt := cell_some_block h
  have hb := e.block a.block hlt (fun h => h)
  unfold World.cell? at h ⊢
  rw [hb]
  exact h
theorem ls_ev {w w' : World} {p : Option Addr} {n c : Nat} {es : List El} (h : Ls w p n c es) (e : Ev (fun _ => False) w w') : Ls w' p n c es :=
  ⟨h.len, h.cap, h.max, h.nil, fun i x hx => by
    obtain ⟨b, o, e1, h1, h2, h3⟩ := h.lie i x hx
    exact ⟨b, o, e1, cell_ev h1 e, cell_ev h2 e, sl_ev h3 (fun _ _ _ _ h => h) e⟩⟩
theorem lx_has {p : Option Addr} {n c : Nat} {es : List El} {w : World} (h : Ls w p n c es) : Has (fun _ => False) w (Lx p n c es) (.slice p n c) := fun w' e => ⟨rfl, ls_ev h e⟩
theorem lx_len {p : Option Addr} {n c : Nat} {es : List El} : ∀ v w, Lx p n c es v w → ∃ p c, v = .slice p n c := fun v w ⟨e, _⟩ => ⟨_, _, e⟩
/-- A pointer at a number of a list. -/
def AtL (e : El) : Pr := fun v w => ∃ b o, v = .pointer (some ⟨b, o, none⟩) ∧ w.cell? ⟨b, o, none⟩ = some (.bool e.s) ∧ w.cell? ⟨b, o + 1, none⟩ = some (.slice e.p e.n e.c) ∧ Sl w e.p e.n e.c e.xs
theorem run_load_int (ρ : Operand → Value) (o : Oper) (x : Operand) (w : World) (b k : Nat) (s : Bool) (p : Option Addr) (n c : Nat) (h1 : w.cell? ⟨b, k, none⟩ = some (.bool s)) (h2 : w.cell? ⟨b, k + 1, none⟩ = some (.slice p n c)) (hx : ρ x = .pointer (some ⟨b, k, none⟩)) :
    (execOp ρ { o with op := .load 36 x }).run Tryd.prog w = .ok (.value (.agg #[.bool s, .slice p n c])) w := by
  unfold execOp
  go_simp
theorem run_index_ints (ρ : Operand → Value) (o : Oper) (x y : Operand) (w : World) (b k i n c : Nat) (hi : i < n) (hx : ρ x = .slice (some ⟨b, k, none⟩) n c) (hy : ρ y = .int .i64 i) :
    (execOp ρ { o with op := .indexAddr 23 x y }).run Tryd.prog w = .ok (.value (.pointer (some ⟨b, k + 2 * i, none⟩))) w := by
  unfold execOp
  go_simp
section
variable {ops : Array Oper} {l : List Kd} {bx : Bxs} {sl : List (Tmp × Pr)} {i : Nat} {o : Oper} {Q : Exit → Act → World → Prop} {a0 : Act} {n0 : Nat} {w0 : World}
theorem owe_lindex {x y : Operand} {p : Option Addr} {n c k : Nat} {es : List El} {e : El} (ho : ops[i]? = some o) (hw : Wants ops l bx sl i o) (hop : o.op = .indexAddr 23 x y) (hx : Opnd ops l bx sl i x (Lx p n c es)) (hy : Opnd ops l bx sl i y (Is (.int .i64 (k : Nat)))) (he : es[k]? = some e) (hk : kdAt l i = .val (AtL e)) : Owed Tryd.prog ops Q l bx sl a0 n0 w0 i :=
  owe_val ho hw hk fun vs B a w cx => by
    have hX := hx a0 n0 w0 vs B a w cx
    have hyv : a.eval y = .int .i64 (k : Nat) := (hy a0 n0 w0 vs B a w cx).now
    obtain ⟨e1, L⟩ := hX.now
    obtain ⟨b, o', rfl, _⟩ := L.lie k e he
    have hlt : k < n := by rw [← L.len]; exact (List.getElem?_eq_some_iff.1 he).1
    refine ⟨.pointer (some ⟨b, o' + 2 * k, none⟩), ?_, fun w' ev => ?_⟩
    · rw [← run_index_ints a.eval o x y w b o' k n c hlt e1 hyv]
      unfold execOp
      rw [hop]
    · obtain ⟨_, L'⟩ := hX w' ev
      obtain ⟨b', o'', e2, h1, h2, h3⟩ := L'.lie k e he
      cases e2
      exact ⟨b, _, rfl, h1, h2, h3⟩
theorem owe_eload {x : Operand} {e : El} (ho : ops[i]? = some o) (hw : Wants ops l bx sl i o) (hop : o.op = .load 36 x) (hx : Opnd ops l bx sl i x (AtL e)) (hk : kdAt l i = .val (Zx e.s e.p e.n e.c e.xs)) : Owed Tryd.prog ops Q l bx sl a0 n0 w0 i :=
  owe_val ho hw hk fun vs B a w cx => by
    have hX := hx a0 n0 w0 vs B a w cx
    obtain ⟨b, o', e1, h1, h2, h3⟩ := hX.now
    refine ⟨.agg #[.bool e.s, .slice e.p e.n e.c], ?_, fun w' ev => ?_⟩
    · rw [← run_load_int a.eval o x w b o' e.s e.p e.n e.c h1 h2 e1]
      unfold execOp
      rw [hop]
    · obtain ⟨_, _, _, _, _, h3'⟩ := hX w' ev
      exact ⟨rfl, h3'⟩
end
/-- What an element is worth, and the sum of the first k. -/
def El.z (e : El) : Int := sg e.s (val e.xs)
def tot (es : List El) : Nat → Int
  | 0 => 0
  | k + 1 => tot es k + (match es[k]? with | some e => e.z | none => 0)
theorem tot_succ {es : List El} {k : Nat} {e : El} (h : es[k]? = some e) : tot es (k + 1) = tot es k + sg e.s (val e.xs) := by
  show tot es k + (match es[k]? with | some e => e.z | none => 0) = _
  rw [h]
  rfl
end Go.Proofs.YtdhjgekbocnnkaaDoor
