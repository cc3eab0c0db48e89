import Derived.Test.YtoeopdmaogmjhaaGsB
import Derived.Test.YtoeopdmaogmjhaaDtA
import Derived.Test.YtoeopdmaogmjhaaSetV
import Derived.Test.YtoeopdmaogmjhaaHxA
import Derived.Test.YtoeopdmaogmjhaaGsA
import Derived.Test.YtoeopdmaogmjhaaGsD
import Derived.Test.YtoeopdmaogmjhaaGlA
/-
 The data of rows are determinants: all divisions come out even, and no number is longer than those.
-/
namespace Go.Proofs.Ytoeopdmaogmjhaa
open Go Go.RowKit Nt
set_option linter.unusedSimpArgs false
set_option linter.unusedVariables false
set_option maxRecDepth 20000

/-- The dot products of the rows. -/
def gr (Bm : List (List Int)) : Nat → Nat → Int := fun r c => dotR (Bm.getD r []) (Bm.getD c [])
theorem fl_even {A B q : Int} (hB : B ≠ 0) (h : A = B * q) : fl A B = q ∧ rm A B = 0 :=
 fl_unique hB (by rw [h, Int.mul_comm]; omega) (fun h => ⟨by omega, h⟩) (fun h => ⟨h, by omega⟩)
section
variable {G : Dt.Mt} {D L M : List Int} {i j K : Nat}
end
theorem getD_snoc {α : Type} (l : List α) (x d : α) (k : Nat) : (l ++ [x]).getD k d = if k < l.length then l.getD k d else if k = l.length then x else d := by
 rw [List.getD_eq_getElem?_getD, List.getD_eq_getElem?_getD]
 rcases Nat.lt_or_ge k l.length with h | h
 ·rw [if_pos h, List.getElem?_append_left h]
 ·rw [if_neg (by omega), List.getElem?_append_right h]
  by_cases e : k = l.length
  ·rw [if_pos e, e, Nat.sub_self]; rfl
  ·rw [if_neg e]
   obtain ⟨t, ht⟩ : ∃ t, k - l.length = t + 1 := ⟨k - l.length - 1, by omega⟩
   rw [ht]; rfl
end Go.Proofs.Ytoeopdmaogmjhaa

/-
 gso.framed, where it is not well.
-/
namespace Go.Proofs.Ytoeopdmaogmjhaa
open Go Go.RowKit Nt
set_option linter.unusedSimpArgs false
set_option linter.unusedVariables false
set_option maxRecDepth 20000


end Go.Proofs.Ytoeopdmaogmjhaa

/-
 The document's dot product of rows.
-/
namespace Go.Proofs.Ytoeopdmaogmjhaa
open Go Go.RowKit Nt
set_option linter.unusedSimpArgs false
set_option linter.unusedVariables false
set_option maxRecDepth 20000

end Go.Proofs.Ytoeopdmaogmjhaa

/-
 Handles that a statement has made, laid into structs by that same statement.
-/
namespace Go.Proofs.Ytoeopdmaogmjhaa
open Go Go.RowKit Nt
set_option linter.unusedSimpArgs false
set_option linter.unusedVariables false
set_option maxRecDepth 20000

theorem zg_sf : ∀ v w, Is (.agg #[.slice none 0 0, .slice none 0 0]) v w → SF [Is (.slice none 0 0), Is (.slice none 0 0)] v w := fun v w h => ⟨_, h, rfl, by simp [Value.oneCell'], fun f q hq => by
 match f, hq with
 | 0, hq => simp at hq; subst hq; exact ⟨_, rfl, rfl⟩
 | 1, hq => simp at hq; subst hq; exact ⟨_, rfl, rfl⟩⟩
theorem sf_snd {p q : Pr} {b : Value} {w : World} {v : Value} (h : SF [p, Is b] v w) (h2 : q b w) : SF [p, q] v w := by
 obtain ⟨cs, e, hs, ho, hp⟩ := h
 refine ⟨cs, e, hs, ho, fun f r hf => ?_⟩
 match f, hf with
 | 0, hf => simp at hf; subst hf; exact hp 0 _ rfl
 | 1, hf => simp at hf; subst hf; obtain ⟨u, hu, ha⟩ := hp 1 _ rfl; obtain rfl : u = b := ha; exact ⟨u, hu, h2⟩
theorem cellsOf_one {sz : Nat} : ∀ {us : List Value}, (∀ u ∈ us, Celv sz u) → ∀ x ∈ cellsOf us, x.oneCell' = true
 | [], _, x, hx => by cases hx
 | u :: r, h, x, hx => by
  have e : cellsOf (u :: r) = u.cells.toList ++ cellsOf r := rfl
  rw [e] at hx
  rcases List.mem_append.1 hx with hx | hx
  ·have := (h u (by simp)).one
   rw [Array.all_eq_true_iff_forall_mem] at this
   exact this x (by simpa using hx)
  ·exact cellsOf_one (fun v hv => h v (by simp [hv])) x hx
theorem owns_sl {w : World} {lo e size n : Nat} {v : Value} {xs : List Value} (h : w.ownsRow lo e size v n xs) : ∃ p c, v = .slice p n c := by
 rcases h.2 with ⟨e1, e2⟩ | ⟨g, cap, cur, e1, _⟩
 ·exact ⟨none, 0, by rw [e2]; exact e1⟩
 ·exact ⟨_, _, e1⟩
section
variable {ops : Array Oper} {l : List Kd} {bx : Bxs} {sl : List (Tmp × Pr)} {i : Nat} {o : Oper} {Q : Exit → Act → World → Prop} {a0 : Act} {n : Nat} {w0 : World}
/-- A handle that operation j has made is laid into a field. -/
theorem owe_pputX {T T' : TypeId} {t k f j d e size m : Nat} {χ : List Value → World → Prop} {x : Operand} {ps : List Pr} {xh : Value} (ho : ops[i]? = some o) (hw : Wants ops l bx sl i o) (hop : o.op = .store T' x (.tmp d)) (hx : Opnd ops l bx sl i x (Part a0 t f)) (hb : bx[k]? = some (t, .box T (SF ps))) (hn : unturned ops l i (.inl t) = true)
  (hj : ((depsOf ops i).contains j && unturned ops l i (.inr j)) = true) (hkj : kdAt l j = .new (.row e size m χ)) (hd : dstOf ops j = some d) (hS : Store1 T') (hf : f < ps.length) (hk : kdAt l i = .put (.inl t) (.box T (SF (ps.set f (Is xh))))) : OwedX Try.prog ops Q l bx sl a0 n w0 j xh i := fun vs B a w hv c o' ho' => by
 obtain rfl : o = o' := Option.some.inj (ho.symm.trans ho')
 simp only [Bool.and_eq_true] at hj
 obtain ⟨b, u, hp0, hB, hu, hφ⟩ := c.box t _ (List.mem_of_getElem? hb) hn
 obtain ⟨b', hb0, hv0⟩ := (hx a0 n w0 vs B a w c).now
 rw [hp0] at hb0
 simp at hb0
 subst hb0
 obtain ⟨en, hat⟩ := c.news j d _ (by simpa using hj.1) (by rw [hkj]; rfl) hd
 obtain ⟨xs, hown, _⟩ := hat hj.2
 rw [hv] at en hown
 obtain ⟨p, cc, es⟩ := owns_sl hown
 obtain ⟨cs, rfl, h2, h3, h4⟩ := hφ.now
 obtain ⟨v, hcv, _⟩ := h4 f (ps[f]'hf) (by simp [hf])
 have hfl : Flat (a.eval (.tmp d)) := Or.inl ⟨p, m, cc, en.trans es⟩
 have h := hS a.eval w o x (.tmp d) b f v hv0 (sf_cell hu hcv) (sf_frozen hu) hfl
 have h' : (execOp a.eval o).run Try.prog w = .ok .skip (w.setCell ⟨b, f, none⟩ (a.eval (.tmp d))) := by
  rw [← h]
  unfold execOp
  rw [hop]
 simp only [wpOp, ho]
 rw [if_pos (hw a0 n w0 vs B a w c)]
 refine Or.inl ?_
 unfold Oper.wp
 rw [h', Oper.upon_skip]
 exact ⟨undef, rfl, by rw [hk]; exact sf_put (x := .inl t) (χ := Is xh) (fun b h => idset_plain (x := .inl t) (List.mem_of_getElem? hb) rfl h) hp0 hB hu hφ (fun _ _ => en) hfl.one _⟩
/-- A struct of two lists, the second one's handle made by operation j. -/
theorem owe_build_gX {j d e size m : Nat} {χ : List Value → World → Prop} {x : Operand} {pd : Pr} {xh : Value} (ho : ops[i]? = some o) (hw : Wants ops l bx sl i o) (hop : o.op = .build 25 #[(0, x), (1, .tmp d)]) (hx : Opnd ops l bx sl i x pd) (hs : ∀ v w, pd v w → ∃ p m c, v = .slice p m c)
    (hj : ((depsOf ops i).contains j && unturned ops l i (.inr j)) = true) (hkj : kdAt l j = .new (.row e size m χ)) (hd : dstOf ops j = some d) (hk : kdAt l i = .val (SF [pd, Is xh])) : OwedX Try.prog ops Q l bx sl a0 n w0 j xh i := fun vs B a w hv c => by
  simp only [Bool.and_eq_true] at hj
  obtain ⟨en, hat⟩ := c.news j d _ (by simpa using hj.1) (by rw [hkj]; rfl) hd
  obtain ⟨xs, hown, _⟩ := hat hj.2
  rw [hv] at en hown
  obtain ⟨p, cc, es⟩ := owns_sl hown
  have h1 := hx a0 n w0 vs B a w c
  obtain ⟨p1, m1, c1, e1⟩ := hs _ _ h1.now
  have key : (execOp a.eval o).run Try.prog w = .ok (.value (.agg #[a.eval x, a.eval (.tmp d)])) w := by
    have e2 : a.eval (.tmp d) = .slice p m cc := en.trans es
    unfold execOp
    rw [hop]
    clear h1 hx en
    generalize a.eval = ρ at e1 e2
    go_simp
  intro o' ho'
  obtain rfl : o = o' := Option.some.inj (ho.symm.trans ho')
  simp only [wpOp, ho]
  rw [if_pos (hw a0 n w0 vs B a w c)]
  refine Or.inl ?_
  unfold Oper.wp
  rw [key, Oper.upon_value]
  refine ⟨_, rfl, ?_⟩
  rw [hk]
  refine ⟨Below.refl _ _, fun w' ev => ⟨_, rfl, rfl, ?_, fun f q hq => ?_⟩⟩
  · have e2 : a.eval (.tmp d) = .slice p m cc := en.trans es
    rw [e1, e2]
    simp [Value.oneCell']
  · match f, hq with
    | 0, hq => simp at hq; subst hq; exact ⟨_, rfl, h1 w' ev⟩
    | 1, hq => simp at hq; subst hq; exact ⟨_, rfl, en⟩
/-- A list of two, as the source of an append. -/
theorem owe_lit2S {x y : Operand} {T E sz : Nat} {p : Value → Prop} {φ0 φ1 : Pr} (ho : ops[i]? = some o) (hw : Wants ops l bx sl i o) (hop : o.op = .buildSlice T 2 #[(0, x), (1, y)]) (hB : Bld2 T E p) (hx : Opnd ops l bx sl i x φ0) (hy : Opnd ops l bx sl i y φ1) (hp0 : ∀ v w, φ0 v w → p v ∧ Celv sz v) (hp1 : ∀ v w, φ1 v w → p v ∧ Celv sz v) (hk : kdAt l i = .val (Src E sz 2 (CE sz [φ0, φ1]))) : Owed Try.prog ops Q l bx sl a0 n w0 i :=
 owe_grow ho hw hk fun vs B a w c => by
  have h0 := hx a0 n w0 vs B a w c
  have h1 := hy a0 n w0 vs B a w c
  obtain ⟨q0, k0⟩ := hp0 _ _ h0.now
  obtain ⟨q1, k1⟩ := hp1 _ _ h1.now
  have hcv : ∀ u ∈ [a.eval x, a.eval y], Celv sz u := fun u hu => by
   simp at hu
   rcases hu with rfl | rfl
   ·exact k0
   ·exact k1
  have hb : Below w.heap.size w (w.alloc (.cells (cellsOf [a.eval x, a.eval y]).toArray E)) := (Below.refl _ _).alloc (Nat.le_refl _) _
  refine ⟨.slice (some ⟨w.heap.size, 0, none⟩) 2 2, _, ?_, hb, fun w' e'' => ⟨w.heap.size, 2, cellsOf [a.eval x, a.eval y], rfl, ⟨?_, Nat.le_refl _, by unfold maxLen; omega⟩, ?_, ?_, [a.eval x, a.eval y], rfl, rfl, hcv, fun j u φ hu hφ => ?_⟩⟩
  ·rw [← hB a.eval o x y w q0 q1]
   unfold execOp
   rw [hop]
  ·rw [cellsOf_len hcv]; rfl
  ·rw [e''.block w.heap.size (Array.getElem?_eq_some_iff.1 (heap_alloc_last w _)).1 (fun hB => by have := (c.bnd _ hB).2; omega)]
   exact heap_alloc_last _ _
  ·exact cellsOf_one hcv
  ·have ev0 : Ev B w w' := ⟨e''.os.trans hb.os, e''.tape.trans hb.tape, e''.output.trans hb.output, Nat.le_trans hb.size e''.size, fun k hk hn => (e''.block k (Nat.lt_of_lt_of_le hk hb.size) hn).trans (hb.block k hk)⟩
   match j, hu, hφ with
   | 0, hu, hφ => simp at hu hφ; subst hu; subst hφ; exact h0 w' ev0
   | 1, hu, hφ => simp at hu hφ; subst hu; subst hφ; exact h1 w' ev0
end
end Go.Proofs.Ytoeopdmaogmjhaa

/-
 The document's frame of rows: each step of its rationals is a step of determinants.
-/
namespace Go.Proofs.Ytoeopdmaogmjhaa
open Go Go.RowKit Nt
set_option linter.unusedSimpArgs false
set_option linter.unusedVariables false
set_option maxRecDepth 20000

end Go.Proofs.Ytoeopdmaogmjhaa

/-
 gso.Wide, gso.Of, gso.Valid, where it is not well; gso.Valid where it is.
-/
namespace Go.Proofs.Ytoeopdmaogmjhaa
open Go Go.RowKit Nt
set_option linter.unusedSimpArgs false
set_option linter.unusedVariables false
set_option maxRecDepth 20000

end Go.Proofs.Ytoeopdmaogmjhaa

/-
 gso.Of of every matrix: an error that is not 0, or the data of its rows.
-/
namespace Go.Proofs.Ytoeopdmaogmjhaa
open Go Go.RowKit Nt
set_option linter.unusedSimpArgs false
set_option linter.unusedVariables false
set_option maxRecDepth 20000

end Go.Proofs.Ytoeopdmaogmjhaa

/-
 The document's frame of rows: differences and quotients of rationals; its lists.
-/
namespace Go.Proofs.Ytoeopdmaogmjhaa
open Go Go.RowKit Nt
set_option linter.unusedSimpArgs false
set_option linter.unusedVariables false
set_option maxRecDepth 20000

end Go.Proofs.Ytoeopdmaogmjhaa

/-
 The norm of data of rows is the squared length of the vector.
-/
namespace Go.Proofs.Ytoeopdmaogmjhaa
open Go Go.RowKit Nt
set_option linter.unusedSimpArgs false
set_option linter.unusedVariables false
set_option maxRecDepth 20000

end Go.Proofs.Ytoeopdmaogmjhaa

/-
 The document's frame of rows.
-/
namespace Go.Proofs.Ytoeopdmaogmjhaa
open Go Go.RowKit Nt
set_option linter.unusedSimpArgs false
set_option linter.unusedVariables false
set_option maxRecDepth 20000


/-! Determinants above nought as whole numbers; how long they are. -/
section
variable {G : Nat → Nat → Int} {mm KK : Nat}
end
abbrev qs (l : List (Int × Nat)) : List (Nat → Pr) := l.map (fun p => QQ p.1 p.2)
end Go.Proofs.Ytoeopdmaogmjhaa

/-
 A rational by any quotient that it is, in whatever form: sums, differences, products, quotients by the document.
-/
namespace Go.Proofs.Ytoeopdmaogmjhaa
open Go Go.RowKit Nt
set_option linter.unusedSimpArgs false
set_option linter.unusedVariables false
set_option maxRecDepth 20000

end Go.Proofs.Ytoeopdmaogmjhaa

/-
 A sum of rows by a list of numbers, and its squared length.
-/
namespace Go.Proofs.Ytoeopdmaogmjhaa
open Go Go.RowKit Nt
set_option linter.unusedSimpArgs false
set_option linter.unusedVariables false
set_option maxRecDepth 20000

end Go.Proofs.Ytoeopdmaogmjhaa
