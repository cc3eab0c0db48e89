/-
 Lists of numbers by their signs and limbs: rows that begin as nil, rows that are read; zint.Sum.
-/
import Derived.Test.YtddjoigjdolafaaGreatSetF
import Derived.Test.YtddjoigjdolafaaGreatSetY
namespace Go.Proofs.YtddjoigjdolafaaGreat
open Go Go.RowKit Nt
set_option linter.unusedSimpArgs false
set_option linter.unusedVariables false
set_option maxRecDepth 20000

/-- A row that begins as nil. -/
theorem owe_nilrow {ops : Array Oper} {l : List Kd} {bx : Bxs} {sl : List (Tmp × Pr)} {i : Nat} {o : Oper} {Q : Exit → Act → World → Prop} {a0 : Act} {n0 : Nat} {w0 : World} {e size : Nat} {χ : List Value → World → Prop} (ho : ops[i]? = some o) (hw : Wants ops l bx sl i o) (hop : o.op = .assign (.const (.slice none 0 0))) (hk : kdAt l i = .new (.row e size 0 χ)) (hχ : ∀ w, χ [] w) : Owed Tryz.prog ops Q l bx sl a0 n0 w0 i := fun vs B a w c o' ho' => by
 obtain rfl : o = o' := Option.some.inj (ho.symm.trans ho')
 simp only [wpOp, ho]
 rw [if_pos (hw a0 n0 w0 vs B a w c)]
 refine Or.inl ?_
 unfold Oper.wp
 have h : (execOp a.eval o).run Tryz.prog w = .ok (.value (.slice none 0 0)) w := by
  unfold execOp
  rw [hop]
  rfl
 rw [h, Oper.upon_value]
 refine ⟨_, rfl, ?_⟩
 rw [hk]
 refine ⟨Below.refl _ _, fun b hb => ?_, [], World.ownsRow_nil _ _ _ _, fun b hb => ?_, fun w' _ => hχ w'⟩
 ·simp [Rk.set, vblock] at hb
 ·simp [vblock] at hb
/-- A list that holds numbers with the signs and the limbs of es. -/
def Lc (es : List El) (n : Nat) : Pr := fun v w => ∃ p c fs, v = .slice p n c ∧ Ls w p n c fs ∧ fs.length = es.length ∧ ∀ (i : Nat) (f e : El), fs[i]? = some f → es[i]? = some e → f.s = e.s ∧ f.n = e.n ∧ f.xs = e.xs
theorem tot_same {fs es : List El} (hl : fs.length = es.length) (h : ∀ (i : Nat) (f e : El), fs[i]? = some f → es[i]? = some e → f.s = e.s ∧ f.n = e.n ∧ f.xs = e.xs) (k : Nat) : tot fs k = tot es k := by
 induction k with
 | zero => rfl
 | succ k ih =>
  show tot fs k + _ = tot es k + _
  rw [ih]
  congr 1
  cases hf : fs[k]? with
  | none =>
   have : es[k]? = none := by
    rw [List.getElem?_eq_none_iff] at hf ⊢
    omega
   rw [this]
  | some f =>
   have hi : k < fs.length := (List.getElem?_eq_some_iff.1 hf).1
   obtain ⟨e, he⟩ : ∃ e, es[k]? = some e := ⟨es[k]'(by omega), List.getElem?_eq_getElem _⟩
   rw [he]
   obtain ⟨a, _, c⟩ := h k f e hf he
   simp only [El.z, a, c]
theorem g_ztotal {es : List El} {n : Nat} (hn : n ≤ 1048576) (hB : ∀ (i : Nat) (e : El), es[i]? = some e → e.n ≤ 1073741824) : ∀ w u, Lc es n u w → Calls Tryz.prog 96 #[u] w (Gives (ZN (tot es n)) w) := by
 rintro w u ⟨p, c, fs, rfl, hL, hl, hs⟩
 rw [← tot_same hl hs n]
 refine (total_c w p n c fs hL hn (fun i f hf => ?_)).mono ?_
 ·have hi : i < fs.length := (List.getElem?_eq_some_iff.1 hf).1
  obtain ⟨e, he⟩ : ∃ e, es[i]? = some e := ⟨es[i]'(by omega), List.getElem?_eq_getElem _⟩
  rw [(hs i f e hf he).2.1]
  exact hB i e he
 ·rintro e w' ⟨r, cr, rfl, Z⟩
  exact za_gives Z
theorem lc_has {es : List El} {n : Nat} {v : Value} {w : World} (h : Lc es n v w) : Has (fun _ => False) w (Lc es n) v := fun w' e => by
 obtain ⟨p, c, fs, h1, h2, h3⟩ := h
 exact ⟨p, c, fs, h1, ls_ev h2 e, h3⟩
end Go.Proofs.YtddjoigjdolafaaGreat
