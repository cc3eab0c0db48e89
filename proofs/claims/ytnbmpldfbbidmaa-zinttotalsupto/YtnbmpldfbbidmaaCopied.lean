/-
  The law's helpers: copied, kept.
-/
import Derived.Test.YtnbmpldfbbidmaaSetD
import Derived.Test.YtnbmpldfbbidmaaAwake
namespace Go.Proofs.Ytnbmpldfbbidmaa
open Go.RowKit Nt
set_option linter.unusedSimpArgs false
set_option linter.unusedVariables false

theorem append_nils (W : World) (ty : TypeId) : (Builtin.append_ #[23, 23] ty #[.slice none 0 0, .slice none 0 0]).run Try.prog W = .ok (.slice none 0 0) W := by
  obtain ⟨i0, hi, hz0, hz1, hz2⟩ := info_parts infoU32
  exact run_append_owned_none (P := Try.prog) W 0 23 ty 30 i0 1 Try.underlying23 hi (.slice none 0 0) 0 [] (World.ownsRow_nil _ _ _ _)

theorem Own.row {w : World} {base : Nat} {v : Value} {xs : List Nat} (h : Own w base v xs) (hne : xs ≠ []) :
    ∃ g cap, v = .slice (some ⟨g, 0, none⟩) xs.length cap ∧ base ≤ g ∧ g < w.heap.size ∧ xs.length ≤ cap ∧ cap ≤ maxLen ∧ Limbs w (some ⟨g, 0, none⟩) xs := by
  obtain ⟨h1, h2⟩ := h
  rcases h2 with ⟨rfl, h0⟩ | ⟨g, cap, cur, rfl, hb, hg, hc, hm, hs, ht⟩
  · exact absurd (List.length_eq_zero_iff.1 h0) hne
  · refine ⟨g, cap, rfl, hb, (Array.getElem?_eq_some_iff.1 hg).1, hc, hm, fun i hi => ⟨g, 0, rfl, ?_⟩⟩
    have e : (cur.toList.take (xs.length * 1))[i]? = some (.int .u32 (xs.getD i 0)) := by rw [ht]; exact U_get xs i hi
    rw [List.getElem?_take, if_pos (by omega)] at e
    simp only [World.cell?, hg]
    simpa using e

theorem limbs_three (w : World) : Limbs (w.alloc (.cells #[.int .u32 77, .int .u32 78, .int .u32 79] 30)) (some ⟨w.heap.size, 0, none⟩) [77, 78, 79] :=
  Blk.limbs (show Blk _ _ [77, 78, 79] from heap_alloc_last _ _)

/-- What copied makes: a row of its own: the limbs, then 77, 78, 79. -/
structure Copy (w w' : World) (g n cr : Nat) (xs : List Nat) : Prop where
  below : Below w.heap.size w w'
  fresh : w.heap.size ≤ g
  cap : n + 3 ≤ cr
  max : cr ≤ maxLen
  lie : Limbs w' (some ⟨g, 0, none⟩) (xs ++ [77, 78, 79])

theorem copy_end {w w1 w2 : World} {v' : Value} {xs : List Nat} {n : Nat} (hn : xs.length = n) (ho : Own w2 w.heap.size v' (xs ++ [77, 78, 79])) (hb : Below w.heap.size w w2) :
    ∃ g cr, v' = .slice (some ⟨g, 0, none⟩) (n + 3) cr ∧ Copy w w2 g n cr xs := by
  obtain ⟨g, cap, rfl, h1, h2, h3, h4, h5⟩ := ho.row (by simp)
  refine ⟨g, cap, by simp [hn], hb, h1, by simpa [hn] using h3, h4, h5⟩

theorem copy_end' {w w2 : World} {v' : Value} {xs : List Nat} {n : Nat} (hn : xs.length = n) (ho : Own w2 w.heap.size v' (xs ++ [77, 78, 79])) (hb : Below w.heap.size w w2) :
    ∃ g cr, v' = .slice (some ⟨g, 0, none⟩) (n + 3) cr ∧ Hid (Copy w w2 g n cr xs) ∧ n + 3 ≤ cr ∧ cr ≤ 2 ^ 63 - 1 := by
  obtain ⟨g, cr, h1, h2⟩ := copy_end (w := w) (w1 := w) hn ho hb
  exact ⟨g, cr, h1, h2, h2.cap, h2.max⟩

theorem Copy.sl {w w' : World} {g n cr : Nat} {xs : List Nat} (h : Copy w w' g n cr xs) (ho : Ok xs) (hn : xs.length = n) : Sl w' (some ⟨g, 0, none⟩) n cr xs :=
  ⟨hn, by have := h.cap; omega, h.max, (fun e => by cases e), ho, by
    have := h.lie.take xs.length
    rwa [List.take_left] at this⟩
theorem Copy.later {w w' w'' : World} {g n cr : Nat} {xs : List Nat} (h : Copy w w' g n cr xs) (hb : Below w'.heap.size w' w'') : Copy w w'' g n cr xs :=
  ⟨h.below.trans (hb.mono h.below.size), h.fresh, h.cap, h.max, h.lie.below hb⟩

end Go.Proofs.Ytnbmpldfbbidmaa
