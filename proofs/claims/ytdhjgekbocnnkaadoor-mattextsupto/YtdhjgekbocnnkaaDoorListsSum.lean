/-
  Lists of numbers by their signs and limbs: rows that begin as nil, rows that are read; zint.Sum.
-/
import Derived.Test.YtdhjgekbocnnkaaDoorSetF
import Derived.Test.YtdhjgekbocnnkaaDoorSetY
namespace Go.Proofs.YtdhjgekbocnnkaaDoor
open Go Go.RowKit Nt
set_option linter.unusedSimpArgs false
set_option linter.unusedVariables false
set_option maxRecDepth 20000

/-- A row that begins as nil. -/
theorem owe_nilrow {ops : Array Oper} {l : List Kd} {bx : Bxs} {sl : List (Tmp × Pr)} {i : Nat} {o : Oper} {Q : Exit → Act → World → Prop} {a0 : Act} {n0 : Nat} {w0 : World} {e size : Nat} {χ : List Value → World → Prop} (ho : ops[i]? = some o) (hw : Wants ops l bx sl i o) (hop : o.op = .assign (.const (.slice none 0 0))) (hk : kdAt l i = .new (.row e size 0 χ)) (hχ : ∀ w, χ [] w) : Owed Tryd.prog ops Q l bx sl a0 n0 w0 i := fun vs B a w c o' ho' => by
  obtain rfl : o = o' := Option.some.inj (ho.symm.trans ho')
  simp only [wpOp, ho]
  rw [if_pos (hw a0 n0 w0 vs B a w c)]
  refine Or.inl ?_
  unfold Oper.wp
  have h : (execOp a.eval o).run Tryd.prog w = .ok (.value (.slice none 0 0)) w := by
    unfold execOp
    rw [hop]
    rfl
  rw [h, Oper.upon_value]
  refine ⟨_, rfl, ?_⟩
  rw [hk]
  refine ⟨Below.refl _ _, fun b hb => ?_, [], World.ownsRow_nil _ _ _ _, fun b hb => ?_, fun w' _ => hχ w'⟩
  · simp [Rk.set, vblock] at hb
  · simp [vblock] at hb
/-- A list that holds numbers with the signs and the limbs of es. -/
def Lc (es : List El) (n : Nat) : Pr := fun v w => ∃ p c fs, v = .slice p n c ∧ Ls w p n c fs ∧ fs.length = es.length ∧ ∀ (i : Nat) (f e : El), fs[i]? = some f → es[i]? = some e → f.s = e.s ∧ f.n = e.n ∧ f.xs = e.xs
theorem cellsL_get (fs : List El) (i : Nat) (f : El) (h : fs[i]? = some f) : (cellsL fs)[2 * i]? = some (.bool f.s) ∧ (cellsL fs)[2 * i + 1]? = some (.slice f.p f.n f.c) := by
  induction fs generalizing i with
  | nil => simp at h
  | cons x r ih =>
    cases i with
    | zero => simp at h; subst h; simp [cellsL]
    | succ i =>
      have := ih i (by simpa using h)
      have e : cellsL (x :: r) = .bool x.s :: .slice x.p x.n x.c :: cellsL r := rfl
      rw [e, show 2 * (i + 1) = 2 * i + 1 + 1 from by omega]
      simpa using this
theorem cellsL_len (fs : List El) : (cellsL fs).length = 2 * fs.length := by
  induction fs with
  | nil => rfl
  | cons x r ih =>
    have e : cellsL (x :: r) = .bool x.s :: .slice x.p x.n x.c :: cellsL r := rfl
    rw [e]
    simp only [List.length_cons, ih]
    omega
theorem row_lc {lo n : Nat} {es : List El} : ∀ v w ys, World.ownsRow w lo 36 2 v n ys → CL es ys w → Lc es n v w := by
  rintro v w ys ⟨hl, hown⟩ ⟨fs, rfl, hfl, hall⟩
  have hfn : fs.length = n := by rw [cellsL_len] at hl; omega
  rcases hown with ⟨rfl, h0⟩ | ⟨g, cap, cur, rfl, _, hg, hnc, hcm, hcs, htk⟩
  · have : fs = [] := List.length_eq_zero_iff.1 (by omega)
    subst this
    subst h0
    exact ⟨none, 0, [], rfl, Ls.none w, hfl, fun i f e hf => by simp at hf⟩
  · refine ⟨_, cap, fs, rfl, ⟨hfn, hnc, hcm, (fun e => by cases e), fun i f hf => ?_⟩, hfl, fun i f e hf he => ?_⟩
    · have hi : i < fs.length := (List.getElem?_eq_some_iff.1 hf).1
      obtain ⟨h1, h2⟩ := cellsL_get fs i f hf
      obtain ⟨e, he⟩ : ∃ e, es[i]? = some e := ⟨es[i]'(by omega), List.getElem?_eq_getElem _⟩
      refine ⟨g, 0, rfl, ?_, ?_, (hall i f e hf he).2.2.2⟩
      · rw [← htk, List.getElem?_take, if_pos (by omega)] at h1
        simp only [World.cell?, hg, Nat.zero_add]
        simpa using h1
      · rw [← htk, List.getElem?_take, if_pos (by omega)] at h2
        simp only [World.cell?, hg, Nat.zero_add]
        simpa using h2
    · obtain ⟨a, b, c, _⟩ := hall i f e hf he
      exact ⟨a, b, c⟩
theorem tot_same {fs es : List El} (hl : fs.length = es.length) (h : ∀ (i : Nat) (f e : El), fs[i]? = some f → es[i]? = some e → f.s = e.s ∧ f.n = e.n ∧ f.xs = e.xs) (k : Nat) : tot fs k = tot es k := by
  induction k with
  | zero => rfl
  | succ k ih =>
    show tot fs k + _ = tot es k + _
    rw [ih]
    congr 1
    cases hf : fs[k]? with
    | none =>
      have : es[k]? = none := by
        rw [List.getElem?_eq_none_iff] at hf ⊢
        omega
      rw [this]
    | some f =>
      have hi : k < fs.length := (List.getElem?_eq_some_iff.1 hf).1
      obtain ⟨e, he⟩ : ∃ e, es[k]? = some e := ⟨es[k]'(by omega), List.getElem?_eq_getElem _⟩
      rw [he]
      obtain ⟨a, _, c⟩ := h k f e hf he
      simp only [El.z, a, c]
theorem g_ztotal {es : List El} {n : Nat} (hn : n ≤ 1048576) (hB : ∀ (i : Nat) (e : El), es[i]? = some e → e.n ≤ 1073741824) : ∀ w u, Lc es n u w → Calls Tryd.prog 73 #[u] w (Gives (ZN (tot es n)) w) := by
  rintro w u ⟨p, c, fs, rfl, hL, hl, hs⟩
  rw [← tot_same hl hs n]
  refine (total_c w p n c fs hL hn (fun i f hf => ?_)).mono ?_
  · have hi : i < fs.length := (List.getElem?_eq_some_iff.1 hf).1
    obtain ⟨e, he⟩ : ∃ e, es[i]? = some e := ⟨es[i]'(by omega), List.getElem?_eq_getElem _⟩
    rw [(hs i f e hf he).2.1]
    exact hB i e he
  · rintro e w' ⟨r, cr, rfl, Z⟩
    exact za_gives Z
theorem lc_has {es : List El} {n : Nat} {v : Value} {w : World} (h : Lc es n v w) : Has (fun _ => False) w (Lc es n) v := fun w' e => by
  obtain ⟨p, c, fs, h1, h2, h3⟩ := h
  exact ⟨p, c, fs, h1, ls_ev h2 e, h3⟩
end Go.Proofs.YtdhjgekbocnnkaaDoor
