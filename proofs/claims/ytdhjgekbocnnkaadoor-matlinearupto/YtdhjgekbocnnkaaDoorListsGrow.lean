/-
  Lists of numbers that grow by append.
-/
import Derived.Test.YtdhjgekbocnnkaaDoorLists
import Derived.Test.YtdhjgekbocnnkaaDoorConts
namespace Go.Proofs.YtdhjgekbocnnkaaDoor
open Go Go.RowKit Nt
set_option linter.unusedSimpArgs false
set_option linter.unusedVariables false
set_option maxRecDepth 20000

/-- The cells of numbers that lie side by side. -/
def cellsL (fs : List El) : List Value := fs.flatMap fun f => [.bool f.s, .slice f.p f.n f.c]
/-- These cells hold numbers with the signs and the limbs of es. -/
def CL (es : List El) : List Value → World → Prop := fun ys w => ∃ fs : List El, ys = cellsL fs ∧ fs.length = es.length ∧ ∀ (i : Nat) (f e : El), fs[i]? = some f → es[i]? = some e → f.s = e.s ∧ f.n = e.n ∧ f.xs = e.xs ∧ Sl w f.p f.n f.c f.xs
theorem cl_snoc {es : List El} {e : El} : ∀ xs ys w, CL es xs w → CL [e] ys w → CL (es ++ [e]) (xs ++ ys) w := by
  rintro xs ys w ⟨fs, rfl, hl, h⟩ ⟨gs, rfl, hl', h'⟩
  refine ⟨fs ++ gs, by simp [cellsL], by simp [hl, hl'], fun i f x hf hx => ?_⟩
  by_cases hi : i < fs.length
  · rw [List.getElem?_append_left hi] at hf
    rw [List.getElem?_append_left (by omega)] at hx
    exact h i f x hf hx
  · rw [List.getElem?_append_right (by omega)] at hf
    rw [List.getElem?_append_right (by omega), ← hl] at hx
    exact h' _ f x hf hx
/-- A new row with one number in it. -/
def BI (s : Bool) (n : Nat) (xs : List Nat) : Nat → Pr := fun lo v w => ∃ g r c', v = .slice (some ⟨g, 0, none⟩) 1 1 ∧ lo ≤ g ∧ w.heap[g]? = some (.cells #[.bool s, .slice r n c'] 36 (0, 0)) ∧ Sl w r n c' xs ∧ ∀ b o, r = some ⟨b, o, none⟩ → lo ≤ b
theorem fresh_bi (s : Bool) (n : Nat) (xs : List Nat) : Fresh (BI s n xs) :=
  ⟨fun lo lo' v w hl ⟨g, r, c', e, h1, h2, h3, h4⟩ => ⟨g, r, c', e, Nat.le_trans hl h1, h2, h3, fun b o h => Nat.le_trans hl (h4 b o h)⟩,
   fun lo v w w' B hB ⟨g, r, c', e, h1, h2, h3, h4⟩ ev => ⟨g, r, c', e, h1, (ev.block g (Array.getElem?_eq_some_iff.1 h2).1 (fun hb => by have := hB g hb; omega)).trans h2, sl_ev h3 (fun b o e2 _ hb => by have := hB b hb; have := h4 b o e2; omega) ev, h4⟩⟩
theorem bi_src {s : Bool} {n lo : Nat} {xs : List Nat} {e : El} (hs : s = e.s) (hn : n = e.n) (hx : xs = e.xs) : ∀ v w, BI s n xs lo v w → Src 36 2 1 (CL [e]) v w := by
  rintro v w ⟨g, r, c', rfl, h1, h2, h3, h4⟩
  subst hs hn hx
  refine ⟨g, 1, [.bool e.s, .slice r e.n c'], rfl, ⟨rfl, Nat.le_refl _, by unfold maxLen; omega⟩, h2, ?_, [⟨e.s, r, e.n, c', e.xs⟩], rfl, rfl, ?_⟩
  · intro u hu
    simp at hu
    rcases hu with rfl | rfl <;> rfl
  · intro i f x hf hx
    cases i with
    | zero =>
      simp at hf hx
      subst hf hx
      exact ⟨rfl, rfl, rfl, h3⟩
    | succ i => simp at hf
theorem infoInt : (Tryd.prog.info? 36).map (fun i => (i.zero, i.size, i.bytes)) = some (some (.agg #[.bool false, .slice none 0 0]), 2, 32) := by kernel_rfl
theorem einf_int : EInf 36 2 32 := by
  obtain ⟨i0, hi, hz0, hz1, hz2⟩ := info_parts infoInt
  exact ⟨⟨i0, _, hi, hz0, hz1, hz2, rfl⟩, by decide⟩
theorem owe_bi {ops : Array Oper} {l : List Kd} {bx : Bxs} {sl : List (Tmp × Pr)} {i : Nat} {o : Oper} {Q : Exit → Act → World → Prop} {a0 : Act} {n0 : Nat} {w0 : World} {x : Operand} {s : Bool} {n : Nat} {xs : List Nat} (ho : ops[i]? = some o) (hw : Wants ops l bx sl i o) (hop : o.op = .buildSlice 23 1 #[(0, x)]) (hx : Opnd ops l bx sl i x (ZO s n xs w0.heap.size)) (hk : kdAt l i = .val (BI s n xs w0.heap.size)) : Owed Tryd.prog ops Q l bx sl a0 n0 w0 i :=
  owe_grow ho hw hk fun vs B a w c => by
    obtain ⟨r, c', hv, hs, hf⟩ := (hx a0 n0 w0 vs B a w c).now
    have hX := hx a0 n0 w0 vs B a w c
    have hb : Below w.heap.size w (w.alloc (.cells #[.bool s, .slice r n c'] 36)) := (Below.refl _ _).alloc (Nat.le_refl _) _
    refine ⟨.slice (some ⟨w.heap.size, 0, none⟩) 1 1, w.alloc (.cells #[.bool s, .slice r n c'] 36), ?_, hb, fun w'' e'' => ?_⟩
    · unfold execOp
      rw [hop]
      generalize a.eval = ρ at hv
      go_simp
    · have ev : Ev B w w'' := ⟨e''.os.trans hb.os, e''.tape.trans hb.tape, e''.output.trans hb.output, Nat.le_trans hb.size e''.size, fun k hk hn => (e''.block k (Nat.lt_of_lt_of_le hk hb.size) hn).trans (hb.block k hk)⟩
      obtain ⟨r2, c2, hv2, hs2, hf2⟩ := hX w'' ev
      rw [hv] at hv2
      simp only [Value.agg.injEq, Array.mk.injEq, List.cons.injEq, Value.slice.injEq, true_and, and_true] at hv2
      obtain ⟨rfl, rfl⟩ := hv2
      refine ⟨w.heap.size, r, c', rfl, c.lo, ?_, hs2, hf2⟩
      rw [e''.block w.heap.size (Array.getElem?_eq_some_iff.1 (heap_alloc_last w _)).1 (fun hB => by have := (c.bnd _ hB).2; omega)]
      exact heap_alloc_last _ _
end Go.Proofs.YtdhjgekbocnnkaaDoor
