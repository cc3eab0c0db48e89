import Derived.Test.YtdhjgekbocnnkaaDoorSetL
import Derived.Test.YtdhjgekbocnnkaaDoorSetQ
import Derived.Test.YtdhjgekbocnnkaaDoorConts
/-
  Lists of numbers in the logic of statements: their length, their elements.
-/
namespace Go.Proofs.YtdhjgekbocnnkaaDoor
open Go Go.RowKit Nt
set_option linter.unusedSimpArgs false
set_option linter.unusedVariables false
set_option maxRecDepth 20000

/-- A list that came in. -/
def Lx (p : Option Addr) (n c : Nat) (es : List El) : Pr := fun v w => v = .slice p n c ∧ Ls w p n c es
theorem cell_ev {w w' : World} {a : Addr} {v : Value} (h : w.cell? a = some v) (e : Ev (fun _ => False) w w') : w'.cell? a = some v := by
  have hlt := cell_some_block h
  have hb := e.block a.block hlt (fun h => h)
  unfold World.cell? at h ⊢
  rw [hb]
  exact h
theorem ls_ev {w w' : World} {p : Option Addr} {n c : Nat} {es : List El} (h : Ls w p n c es) (e : Ev (fun _ => False) w w') : Ls w' p n c es :=
  ⟨h.len, h.cap, h.max, h.nil, fun i x hx => by
    obtain ⟨b, o, e1, h1, h2, h3⟩ := h.lie i x hx
    exact ⟨b, o, e1, cell_ev h1 e, cell_ev h2 e, sl_ev h3 (fun _ _ _ _ h => h) e⟩⟩
theorem lx_has {p : Option Addr} {n c : Nat} {es : List El} {w : World} (h : Ls w p n c es) : Has (fun _ => False) w (Lx p n c es) (.slice p n c) := fun w' e => ⟨rfl, ls_ev h e⟩
theorem lx_len {p : Option Addr} {n c : Nat} {es : List El} : ∀ v w, Lx p n c es v w → ∃ p c, v = .slice p n c := fun v w ⟨e, _⟩ => ⟨_, _, e⟩
/-- A pointer at a number of a list. -/
def AtL (e : El) : Pr := fun v w => ∃ b o, v = .pointer (some ⟨b, o, none⟩) ∧ w.cell? ⟨b, o, none⟩ = some (.bool e.s) ∧ w.cell? ⟨b, o + 1, none⟩ = some (.slice e.p e.n e.c) ∧ Sl w e.p e.n e.c e.xs
theorem run_load_int (ρ : Operand → Value) (o : Oper) (x : Operand) (w : World) (b k : Nat) (s : Bool) (p : Option Addr) (n c : Nat) (h1 : w.cell? ⟨b, k, none⟩ = some (.bool s)) (h2 : w.cell? ⟨b, k + 1, none⟩ = some (.slice p n c)) (hx : ρ x = .pointer (some ⟨b, k, none⟩)) :
    (execOp ρ { o with op := .load 36 x }).run Tryd.prog w = .ok (.value (.agg #[.bool s, .slice p n c])) w := by
  unfold execOp
  go_simp
theorem run_index_ints (ρ : Operand → Value) (o : Oper) (x y : Operand) (w : World) (b k i n c : Nat) (hi : i < n) (hx : ρ x = .slice (some ⟨b, k, none⟩) n c) (hy : ρ y = .int .i64 i) :
    (execOp ρ { o with op := .indexAddr 23 x y }).run Tryd.prog w = .ok (.value (.pointer (some ⟨b, k + 2 * i, none⟩))) w := by
  unfold execOp
  go_simp
section
variable {ops : Array Oper} {l : List Kd} {bx : Bxs} {sl : List (Tmp × Pr)} {i : Nat} {o : Oper} {Q : Exit → Act → World → Prop} {a0 : Act} {n0 : Nat} {w0 : World}
theorem owe_lindex {x y : Operand} {p : Option Addr} {n c k : Nat} {es : List El} {e : El} (ho : ops[i]? = some o) (hw : Wants ops l bx sl i o) (hop : o.op = .indexAddr 23 x y) (hx : Opnd ops l bx sl i x (Lx p n c es)) (hy : Opnd ops l bx sl i y (Is (.int .i64 (k : Nat)))) (he : es[k]? = some e) (hk : kdAt l i = .val (AtL e)) : Owed Tryd.prog ops Q l bx sl a0 n0 w0 i :=
  owe_val ho hw hk fun vs B a w cx => by
    have hX := hx a0 n0 w0 vs B a w cx
    have hyv : a.eval y = .int .i64 (k : Nat) := (hy a0 n0 w0 vs B a w cx).now
    obtain ⟨e1, L⟩ := hX.now
    obtain ⟨b, o', rfl, _⟩ := L.lie k e he
    have hlt : k < n := by rw [← L.len]; exact (List.getElem?_eq_some_iff.1 he).1
    refine ⟨.pointer (some ⟨b, o' + 2 * k, none⟩), ?_, fun w' ev => ?_⟩
    · rw [← run_index_ints a.eval o x y w b o' k n c hlt e1 hyv]
      unfold execOp
      rw [hop]
    · obtain ⟨_, L'⟩ := hX w' ev
      obtain ⟨b', o'', e2, h1, h2, h3⟩ := L'.lie k e he
      cases e2
      exact ⟨b, _, rfl, h1, h2, h3⟩
theorem owe_eload {x : Operand} {e : El} (ho : ops[i]? = some o) (hw : Wants ops l bx sl i o) (hop : o.op = .load 36 x) (hx : Opnd ops l bx sl i x (AtL e)) (hk : kdAt l i = .val (Zx e.s e.p e.n e.c e.xs)) : Owed Tryd.prog ops Q l bx sl a0 n0 w0 i :=
  owe_val ho hw hk fun vs B a w cx => by
    have hX := hx a0 n0 w0 vs B a w cx
    obtain ⟨b, o', e1, h1, h2, h3⟩ := hX.now
    refine ⟨.agg #[.bool e.s, .slice e.p e.n e.c], ?_, fun w' ev => ?_⟩
    · rw [← run_load_int a.eval o x w b o' e.s e.p e.n e.c h1 h2 e1]
      unfold execOp
      rw [hop]
    · obtain ⟨_, _, _, _, _, h3'⟩ := hX w' ev
      exact ⟨rfl, h3'⟩
end
/-- What an element is worth, and the sum of the first k. -/
def El.z (e : El) : Int := sg e.s (val e.xs)
def tot (es : List El) : Nat → Int
  | 0 => 0
  | k + 1 => tot es k + (match es[k]? with | some e => e.z | none => 0)
theorem tot_succ {es : List El} {k : Nat} {e : El} (h : es[k]? = some e) : tot es (k + 1) = tot es k + sg e.s (val e.xs) := by
  show tot es k + (match es[k]? with | some e => e.z | none => 0) = _
  rw [h]
  rfl
end Go.Proofs.YtdhjgekbocnnkaaDoor

/-
  Lists of numbers that grow by append.
-/
namespace Go.Proofs.YtdhjgekbocnnkaaDoor
open Go Go.RowKit Nt
set_option linter.unusedSimpArgs false
set_option linter.unusedVariables false
set_option maxRecDepth 20000

/-- The cells of numbers that lie side by side. -/
def cellsL (fs : List El) : List Value := fs.flatMap fun f => [.bool f.s, .slice f.p f.n f.c]
/-- These cells hold numbers with the signs and the limbs of es. -/
def CL (es : List El) : List Value → World → Prop := fun ys w => ∃ fs : List El, ys = cellsL fs ∧ fs.length = es.length ∧ ∀ (i : Nat) (f e : El), fs[i]? = some f → es[i]? = some e → f.s = e.s ∧ f.n = e.n ∧ f.xs = e.xs ∧ Sl w f.p f.n f.c f.xs
theorem cl_snoc {es : List El} {e : El} : ∀ xs ys w, CL es xs w → CL [e] ys w → CL (es ++ [e]) (xs ++ ys) w := by
  rintro xs ys w ⟨fs, rfl, hl, h⟩ ⟨gs, rfl, hl', h'⟩
  refine ⟨fs ++ gs, by simp [cellsL], by simp [hl, hl'], fun i f x hf hx => ?_⟩
  by_cases hi : i < fs.length
  · rw [List.getElem?_append_left hi] at hf
    rw [List.getElem?_append_left (by omega)] at hx
    exact h i f x hf hx
  · rw [List.getElem?_append_right (by omega)] at hf
    rw [List.getElem?_append_right (by omega), ← hl] at hx
    exact h' _ f x hf hx
/-- A new row with one number in it. -/
def BI (s : Bool) (n : Nat) (xs : List Nat) : Nat → Pr := fun lo v w => ∃ g r c', v = .slice (some ⟨g, 0, none⟩) 1 1 ∧ lo ≤ g ∧ w.heap[g]? = some (.cells #[.bool s, .slice r n c'] 36 (0, 0)) ∧ Sl w r n c' xs ∧ ∀ b o, r = some ⟨b, o, none⟩ → lo ≤ b
theorem fresh_bi (s : Bool) (n : Nat) (xs : List Nat) : Fresh (BI s n xs) :=
  ⟨fun lo lo' v w hl ⟨g, r, c', e, h1, h2, h3, h4⟩ => ⟨g, r, c', e, Nat.le_trans hl h1, h2, h3, fun b o h => Nat.le_trans hl (h4 b o h)⟩,
   fun lo v w w' B hB ⟨g, r, c', e, h1, h2, h3, h4⟩ ev => ⟨g, r, c', e, h1, (ev.block g (Array.getElem?_eq_some_iff.1 h2).1 (fun hb => by have := hB g hb; omega)).trans h2, sl_ev h3 (fun b o e2 _ hb => by have := hB b hb; have := h4 b o e2; omega) ev, h4⟩⟩
theorem bi_src {s : Bool} {n lo : Nat} {xs : List Nat} {e : El} (hs : s = e.s) (hn : n = e.n) (hx : xs = e.xs) : ∀ v w, BI s n xs lo v w → Src 36 2 1 (CL [e]) v w := by
  rintro v w ⟨g, r, c', rfl, h1, h2, h3, h4⟩
  subst hs hn hx
  refine ⟨g, 1, [.bool e.s, .slice r e.n c'], rfl, ⟨rfl, Nat.le_refl _, by unfold maxLen; omega⟩, h2, ?_, [⟨e.s, r, e.n, c', e.xs⟩], rfl, rfl, ?_⟩
  · intro u hu
    simp at hu
    rcases hu with rfl | rfl <;> rfl
  · intro i f x hf hx
    cases i with
    | zero =>
      simp at hf hx
      subst hf hx
      exact ⟨rfl, rfl, rfl, h3⟩
    | succ i => simp at hf
theorem infoInt : (Tryd.prog.info? 36).map (fun i => (i.zero, i.size, i.bytes)) = some (some (.agg #[.bool false, .slice none 0 0]), 2, 32) := by kernel_rfl
theorem einf_int : EInf 36 2 32 := by
  obtain ⟨i0, hi, hz0, hz1, hz2⟩ := info_parts infoInt
  exact ⟨⟨i0, _, hi, hz0, hz1, hz2, rfl⟩, by decide⟩
theorem owe_bi {ops : Array Oper} {l : List Kd} {bx : Bxs} {sl : List (Tmp × Pr)} {i : Nat} {o : Oper} {Q : Exit → Act → World → Prop} {a0 : Act} {n0 : Nat} {w0 : World} {x : Operand} {s : Bool} {n : Nat} {xs : List Nat} (ho : ops[i]? = some o) (hw : Wants ops l bx sl i o) (hop : o.op = .buildSlice 23 1 #[(0, x)]) (hx : Opnd ops l bx sl i x (ZO s n xs w0.heap.size)) (hk : kdAt l i = .val (BI s n xs w0.heap.size)) : Owed Tryd.prog ops Q l bx sl a0 n0 w0 i :=
  owe_grow ho hw hk fun vs B a w c => by
    obtain ⟨r, c', hv, hs, hf⟩ := (hx a0 n0 w0 vs B a w c).now
    have hX := hx a0 n0 w0 vs B a w c
    have hb : Below w.heap.size w (w.alloc (.cells #[.bool s, .slice r n c'] 36)) := (Below.refl _ _).alloc (Nat.le_refl _) _
    refine ⟨.slice (some ⟨w.heap.size, 0, none⟩) 1 1, w.alloc (.cells #[.bool s, .slice r n c'] 36), ?_, hb, fun w'' e'' => ?_⟩
    · unfold execOp
      rw [hop]
      generalize a.eval = ρ at hv
      go_simp
    · have ev : Ev B w w'' := ⟨e''.os.trans hb.os, e''.tape.trans hb.tape, e''.output.trans hb.output, Nat.le_trans hb.size e''.size, fun k hk hn => (e''.block k (Nat.lt_of_lt_of_le hk hb.size) hn).trans (hb.block k hk)⟩
      obtain ⟨r2, c2, hv2, hs2, hf2⟩ := hX w'' ev
      rw [hv] at hv2
      simp only [Value.agg.injEq, Array.mk.injEq, List.cons.injEq, Value.slice.injEq, true_and, and_true] at hv2
      obtain ⟨rfl, rfl⟩ := hv2
      refine ⟨w.heap.size, r, c', rfl, c.lo, ?_, hs2, hf2⟩
      rw [e''.block w.heap.size (Array.getElem?_eq_some_iff.1 (heap_alloc_last w _)).1 (fun hB => by have := (c.bnd _ hB).2; omega)]
      exact heap_alloc_last _ _
end Go.Proofs.YtdhjgekbocnnkaaDoor
