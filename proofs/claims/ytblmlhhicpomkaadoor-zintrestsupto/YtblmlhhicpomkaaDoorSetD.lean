import Derived.Test.YtblmlhhicpomkaaDoorSetA
/-
  append onto a row of the call's own.
-/
namespace Go.Proofs.YtblmlhhicpomkaaDoor
open Go.RowKit Nt
set_option linter.unusedSimpArgs false
set_option linter.unusedVariables false

/-- The slice v, made by the call itself (blocks from base on), holds the limbs xs. -/
def Own (w : World) (base : Nat) (v : Value) (xs : List Nat) : Prop := w.ownsRow base 43 1 v xs.length (U xs)

theorem Own.nil (w : World) (base : Nat) : Own w base (.slice none 0 0) [] := World.ownsRow_nil _ _ _ _

theorem Own.sl {w : World} {base : Nat} {v : Value} {xs : List Nat} (h : Own w base v xs) (ho : Ok xs) : ∃ p c, v = .slice p xs.length c ∧ Sl w p xs.length c xs := by
  obtain ⟨h1, h2⟩ := h
  rcases h2 with ⟨rfl, h0⟩ | ⟨g, cap, cur, rfl, hb, hg, hc, hm, hs, ht⟩
  · have : xs = [] := List.length_eq_zero_iff.1 h0
    subst this
    exact ⟨none, 0, rfl, Sl.none w⟩
  · refine ⟨_, _, rfl, rfl, hc, hm, (fun e => by cases e), ho, fun i hi => ⟨g, 0, rfl, ?_⟩⟩
    have e : (cur.toList.take (xs.length * 1))[i]? = some (.int .u32 (xs.getD i 0)) := by rw [ht]; exact U_get xs i hi
    rw [List.getElem?_take, if_pos (by omega)] at e
    simp only [World.cell?, hg]
    simpa using e

theorem Own.alloc {w : World} {base : Nat} {v : Value} {xs : List Nat} (h : Own w base v xs) (o : Obj) : Own (w.alloc o) base v xs := World.ownsRow.alloc h o
theorem Own.drewN {w : World} {base : Nat} {v : Value} {xs : List Nat} (h : Own w base v xs) (n : Nat) : Own (w.drewN n) base v xs := h
theorem Own.below {w w' : World} {base : Nat} {v : Value} {xs : List Nat} (h : Own w base v xs) (hb : Below w.heap.size w w') : Own w' base v xs := by
  obtain ⟨h1, h2⟩ := h
  refine ⟨h1, ?_⟩
  rcases h2 with h2 | ⟨g, cap, cur, h3, h4, hg, hr⟩
  · exact Or.inl h2
  · exact Or.inr ⟨g, cap, cur, h3, h4, (hb.block g (Array.getElem?_eq_some_iff.1 hg).1).trans hg, hr⟩

theorem append_u32 {ops : Array Oper} {rest : List Oper} {o : Oper} {a : Act} {Q : Exit → Act → World → Prop} (w : World) (hgd : o.guard = none) (s x : Operand)
    (ho : o.op = .call { callee := .builtin .append, args := #[s, x], argTypes := #[22, 22] })
    (base : Nat) (v : Value) (xs : List Nat) (hs : a.eval s = v) (hown : Own w base v xs)
    (ad : Addr) (m c : Nat) (news : List Nat) (hx : a.eval x = .slice (some ad) m c) (hl : news.length = m) (hnews : Limbs w (some ad) news)
    (hb : xs.length + m ≤ 35184372088832) (hbase : base ≤ w.heap.size)
    (h : ∀ v' w', Own w' base v' (xs ++ news) → Below base w w' → wpList Tryd.prog ops Q rest (a.put o.dst v') w') : wpList Tryd.prog ops Q (o :: rest) a w := by
  obtain ⟨i0, hi, hz0, hz1, hz2⟩ := info_parts infoU32
  refine wpList_append_own w hgd s x 22 ho base 43 i0 (.int .u32 0) 1 4 Tryd.underlying22 hi hz0 hz1 hz2 rfl (by decide) v xs.length (U xs) hs hown ad m c (U news) hx (by simp [U, hl]) ?_ (oneCell_U news) (by unfold maxLen; omega) (by omega) hbase ?_
  · intro j u hj
    have hj' : j < news.length := by
      have := (List.getElem?_eq_some_iff.1 hj).1
      simpa [U] using this
    rw [U_get news j hj'] at hj
    obtain ⟨b, o', e, hc⟩ := hnews j hj'
    obtain rfl := Option.some.inj e
    rw [← hj, ← hc]
    rw [addr_add]
  · intro v' w' h1 h2 _
    refine h v' w' ?_ ?_
    · unfold Own
      rw [U_append, List.length_append, hl]
      exact h1
    · exact (Below.refl base w).grown h2 hbase (fun k hk => (World.ownsRow.lt hown k hk).1)
end Go.Proofs.YtblmlhhicpomkaaDoor

/-
  The document's own answers (trammelref01): most, limb, Norm, Cmp.
-/
namespace Go.Proofs.YtblmlhhicpomkaaDoor
open Go.RowKit Nt
set_option linter.unusedSimpArgs false
set_option linter.unusedVariables false

/-- A number that a call of the document hands back: its digits; nothing that was there has turned. -/
structure Ans (w w' : World) (p : Option Addr) (c n : Nat) : Prop where
  below : Below w.heap.size w w'
  sl : Sl w' p (Nt.digs n).length c (Nt.digs n)
  fresh : ∀ b o, p = some ⟨b, o, none⟩ → w.heap.size ≤ b

theorem Ans.since {w W w' : World} {p : Option Addr} {c n : Nat} (hb : Below w.heap.size w W) (r : Ans W w' p c n) : Ans w w' p c n := ⟨hb.trans (r.below.mono hb.size), r.sl, fun b o e => Nat.le_trans hb.size (r.fresh b o e)⟩

theorem Own.slf {w : World} {base : Nat} {v : Value} {xs : List Nat} (h : Own w base v xs) (ho : Ok xs) : ∃ p c, v = .slice p xs.length c ∧ Sl w p xs.length c xs ∧ ∀ b o, p = some ⟨b, o, none⟩ → base ≤ b := by
  obtain ⟨p, c, rfl, hs⟩ := h.sl ho
  refine ⟨p, c, rfl, hs, ?_⟩
  obtain ⟨h1, h2⟩ := h
  rcases h2 with ⟨e, h0⟩ | ⟨g, cap, cur, e, hb, hg, hc, hm, hs, ht⟩
  · intro b o e2
    rw [e2] at e
    cases e
  · intro b o e2
    rw [e2] at e
    injection e with e3
    injection e3 with e4
    injection e4 with e5
    omega

theorem limbs_lit (w : World) (x : Nat) {z : Int} (hz : z = x) : Limbs (w.alloc (.cells #[.int .u32 z] 43)) (some ⟨w.heap.size, 0, none⟩) [x] := by
  subst hz
  exact Blk.limbs (show Blk _ _ [x] from heap_alloc_last _ _)

end Go.Proofs.YtblmlhhicpomkaaDoor
