import Derived.Test.YtdlgcklilfnhnaaGreatDoorSetA
/-
  append onto a row of the call's own.
-/
namespace Go.Proofs.YtdlgcklilfnhnaaGreatDoor
open Go.RowKit Nt
set_option linter.unusedSimpArgs false
set_option linter.unusedVariables false
set_option maxRecDepth 20000

/-- The slice v, made by the call itself (blocks from base on), holds the limbs xs. -/
def Own (w : World) (base : Nat) (v : Value) (xs : List Nat) : Prop := w.ownsRow base 38 1 v xs.length (U xs)

theorem Own.nil (w : World) (base : Nat) : Own w base (.slice none 0 0) [] := World.ownsRow_nil _ _ _ _

theorem Own.sl {w : World} {base : Nat} {v : Value} {xs : List Nat} (h : Own w base v xs) (ho : Ok xs) : ∃ p c, v = .slice p xs.length c ∧ Sl w p xs.length c xs := by
  obtain ⟨h1, h2⟩ := h
  rcases h2 with ⟨rfl, h0⟩ | ⟨g, cap, cur, rfl, hb, hg, hc, hm, hs, ht⟩
  · have : xs = [] := List.length_eq_zero_iff.1 h0
    subst this
    exact ⟨none, 0, rfl, Sl.none w⟩
  · refine ⟨_, _, rfl, rfl, hc, hm, (fun e => by cases e), ho, fun i hi => ⟨g, 0, rfl, ?_⟩⟩
    have e : (cur.toList.take (xs.length * 1))[i]? = some (.int .u32 (xs.getD i 0)) := by rw [ht]; exact U_get xs i hi
    rw [List.getElem?_take, if_pos (by omega)] at e
    simp only [World.cell?, hg]
    simpa using e

theorem Own.alloc {w : World} {base : Nat} {v : Value} {xs : List Nat} (h : Own w base v xs) (o : Obj) : Own (w.alloc o) base v xs := World.ownsRow.alloc h o
theorem Own.drewN {w : World} {base : Nat} {v : Value} {xs : List Nat} (h : Own w base v xs) (n : Nat) : Own (w.drewN n) base v xs := h
theorem Own.below {w w' : World} {base : Nat} {v : Value} {xs : List Nat} (h : Own w base v xs) (hb : Below w.heap.size w w') : Own w' base v xs := by
  obtain ⟨h1, h2⟩ := h
  refine ⟨h1, ?_⟩
  rcases h2 with h2 | ⟨g, cap, cur, h3, h4, hg, hr⟩
  · exact Or.inl h2
  · exact Or.inr ⟨g, cap, cur, h3, h4, (hb.block g (Array.getElem?_eq_some_iff.1 hg).1).trans hg, hr⟩

end Go.Proofs.YtdlgcklilfnhnaaGreatDoor

/-
  The document's own answers (trammelref01): most, limb, Norm, Cmp.
-/
namespace Go.Proofs.YtdlgcklilfnhnaaGreatDoor
open Go.RowKit Nt
set_option linter.unusedSimpArgs false
set_option linter.unusedVariables false
set_option maxRecDepth 20000

/-- A number that a call of the document hands back: its digits; nothing that was there has turned. -/
structure Ans (w w' : World) (p : Option Addr) (c n : Nat) : Prop where
  below : Below w.heap.size w w'
  sl : Sl w' p (Nt.digs n).length c (Nt.digs n)
  fresh : ∀ b o, p = some ⟨b, o, none⟩ → w.heap.size ≤ b

theorem Ans.since {w W w' : World} {p : Option Addr} {c n : Nat} (hb : Below w.heap.size w W) (r : Ans W w' p c n) : Ans w w' p c n := ⟨hb.trans (r.below.mono hb.size), r.sl, fun b o e => Nat.le_trans hb.size (r.fresh b o e)⟩

theorem limbs_lit (w : World) (x : Nat) {z : Int} (hz : z = x) : Limbs (w.alloc (.cells #[.int .u32 z] 38)) (some ⟨w.heap.size, 0, none⟩) [x] := by
  subst hz
  exact Blk.limbs (show Blk _ _ [x] from heap_alloc_last _ _)

end Go.Proofs.YtdlgcklilfnhnaaGreatDoor
