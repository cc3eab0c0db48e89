/-
  The document's own answers (trammelref01): most, limb, Norm, Cmp.
-/
import Derived.Test.YtpbdmpimojebgaaDoorAppend
namespace Go.Proofs.YtpbdmpimojebgaaDoor
open Go.RowKit Nt
set_option linter.unusedSimpArgs false
set_option linter.unusedVariables false

/-- A number that a call of the document hands back: its digits; nothing that was there has turned. -/
structure Ans (w w' : World) (p : Option Addr) (c n : Nat) : Prop where
  below : Below w.heap.size w w'
  sl : Sl w' p (Nt.digs n).length c (Nt.digs n)
  fresh : ∀ b o, p = some ⟨b, o, none⟩ → w.heap.size ≤ b

theorem Ans.since {w W w' : World} {p : Option Addr} {c n : Nat} (hb : Below w.heap.size w W) (r : Ans W w' p c n) : Ans w w' p c n := ⟨hb.trans (r.below.mono hb.size), r.sl, fun b o e => Nat.le_trans hb.size (r.fresh b o e)⟩

theorem Own.slf {w : World} {base : Nat} {v : Value} {xs : List Nat} (h : Own w base v xs) (ho : Ok xs) : ∃ p c, v = .slice p xs.length c ∧ Sl w p xs.length c xs ∧ ∀ b o, p = some ⟨b, o, none⟩ → base ≤ b := by
  obtain ⟨p, c, rfl, hs⟩ := h.sl ho
  refine ⟨p, c, rfl, hs, ?_⟩
  obtain ⟨h1, h2⟩ := h
  rcases h2 with ⟨e, h0⟩ | ⟨g, cap, cur, e, hb, hg, hc, hm, hs, ht⟩
  · intro b o e2
    rw [e2] at e
    cases e
  · intro b o e2
    rw [e2] at e
    injection e with e3
    injection e3 with e4
    injection e4 with e5
    omega

theorem limbs_lit (w : World) (x : Nat) {z : Int} (hz : z = x) : Limbs (w.alloc (.cells #[.int .u32 z] 32)) (some ⟨w.heap.size, 0, none⟩) [x] := by
  subst hz
  exact Blk.limbs (show Blk _ _ [x] from heap_alloc_last _ _)

end Go.Proofs.YtpbdmpimojebgaaDoor
