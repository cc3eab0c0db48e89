/-
  Rows of bytes that a call has made.
-/
import Derived.Test.YtnjepeijihmemaaDoorAppend
import Derived.Test.YtnjepeijihmemaaDoorWrites
import Derived.Maps.AppendAt
import Derived.Lib.AppendStr
import Derived.Lib.UnsafeStr
import Derived.Laws.IdiomStrings
namespace Go.Proofs.YtnjepeijihmemaaDoor
open Go.RowKit Nt
set_option linter.unusedSimpArgs false
set_option linter.unusedVariables false

/-- The slice v, made by the call itself (blocks from base on), holds the bytes l. -/
def OwB (w : World) (base : Nat) (v : Value) (l : List UInt8) : Prop := w.ownsRow base 5 1 v l.length (Lib.byteCells l)

theorem byteCells_get (l : List UInt8) (k : Nat) (h : k < l.length) : (Lib.byteCells l)[k]? = some (.int .u8 (l[k].toNat : Int)) := by
  unfold Lib.byteCells
  rw [List.getElem?_map, List.getElem?_eq_getElem h]
  rfl
theorem OwB.below {w w' : World} {base : Nat} {v : Value} {l : List UInt8} (h : OwB w base v l) (hb : Below w.heap.size w w') : OwB w' base v l := by
  obtain ⟨h1, h2⟩ := h
  refine ⟨h1, ?_⟩
  rcases h2 with h2 | ⟨g, cap, cur, h3, h4, hg, hr⟩
  · exact Or.inl h2
  · exact Or.inr ⟨g, cap, cur, h3, h4, (hb.block g (Array.getElem?_eq_some_iff.1 hg).1).trans hg, hr⟩
theorem OwB.nil (w : World) (base : Nat) : OwB w base (.slice none 0 0) [] := World.ownsRow_nil _ _ _ _

/-- The row's own block. -/
theorem OwB.row {w : World} {base : Nat} {v : Value} {l : List UInt8} (h : OwB w base v l) (hne : l ≠ []) : ∃ g cap, v = .slice (some ⟨g, 0, none⟩) l.length cap ∧ base ≤ g ∧ l.length ≤ cap ∧ cap ≤ maxLen ∧
    (∀ k (hk : k < l.length), w.cell? ⟨g, k, none⟩ = some (.int .u8 (l[k].toNat : Int))) ∧ (∀ k, w.frozen? ⟨g, k, none⟩ = false) ∧
    (∀ k (b : UInt8), k < l.length → OwB (w.setCell ⟨g, k, none⟩ (.int .u8 (b.toNat : Int))) base v (l.set k b)) := by
  obtain ⟨h1, h2⟩ := h
  rcases h2 with ⟨rfl, h0⟩ | ⟨g, cap, cur, rfl, hb, hg, hc, hm, hs, ht⟩
  · exact absurd (List.length_eq_zero_iff.1 h0) hne
  · refine ⟨g, cap, rfl, hb, hc, hm, fun k hk => ?_, fun k => by simp [World.frozen?, hg], fun k b hk => ?_⟩
    · have e : (cur.toList.take (l.length * 1))[k]? = some (.int .u8 (l[k].toNat : Int)) := by rw [ht]; exact byteCells_get l k hk
      rw [List.getElem?_take, if_pos (by omega)] at e
      simp only [World.cell?, hg]
      simpa using e
    · rw [setCell_eq_setRow w g k cur _ _ _ hg]
      have hg' := setRow_heap w g _ (cur.setIfInBounds k (.int .u8 (b.toNat : Int))) _ _ hg
      refine ⟨by simp [Lib.byteCells], Or.inr ⟨g, cap, cur.setIfInBounds k (.int .u8 (b.toNat : Int)), by simp, hb, hg', by simpa using hc, hm, by simpa using hs, ?_⟩⟩
      rw [Array.toList_setIfInBounds, List.length_set, List.take_set, ht]
      unfold Lib.byteCells
      rw [List.map_set]

theorem OwB.at {w : World} {base g n cap : Nat} {l : List UInt8} (h : OwB w base (.slice (some ⟨g, 0, none⟩) n cap) l) : n = l.length ∧ base ≤ g ∧ g < w.heap.size ∧ l.length ≤ cap ∧ cap ≤ maxLen ∧
    (∀ k (hk : k < l.length), w.cell? ⟨g, k, none⟩ = some (.int .u8 (l[k].toNat : Int))) ∧ (∀ k, w.frozen? ⟨g, k, none⟩ = false) ∧
    (∀ k (b : UInt8), k < l.length → OwB (w.setCell ⟨g, k, none⟩ (.int .u8 (b.toNat : Int))) base (.slice (some ⟨g, 0, none⟩) n cap) (l.set k b)) ∧
    (∀ B (W : World) k (v : Value), Below B W w → B ≤ g → Below B W (w.setCell ⟨g, k, none⟩ v)) := by
  obtain ⟨h1, h2⟩ := h
  rcases h2 with ⟨h0, _⟩ | ⟨g', cap', cur, e, hb, hg, hc, hm, hs, ht⟩
  · cases h0
  · simp only [Value.slice.injEq, Option.some.injEq, Addr.mk.injEq] at e
    obtain ⟨⟨rfl, _, _⟩, rfl, rfl⟩ := e
    refine ⟨rfl, hb, (Array.getElem?_eq_some_iff.1 hg).1, hc, hm, fun k hk => ?_, fun k => by simp [World.frozen?, hg], fun k b hk => ?_, fun B W k v hB hBg => ?_⟩
    · have e : (cur.toList.take (l.length * 1))[k]? = some (.int .u8 (l[k].toNat : Int)) := by rw [ht]; exact byteCells_get l k hk
      rw [List.getElem?_take, if_pos (by omega)] at e
      simp only [World.cell?, hg]
      simpa using e
    · rw [setCell_eq_setRow w g k cur _ _ _ hg]
      have hg' := setRow_heap w g _ (cur.setIfInBounds k (.int .u8 (b.toNat : Int))) _ _ hg
      refine ⟨by simp [Lib.byteCells], Or.inr ⟨g, cap, cur.setIfInBounds k (.int .u8 (b.toNat : Int)), by simp, hb, hg', by simpa using hc, hm, by simpa using hs, ?_⟩⟩
      rw [Array.toList_setIfInBounds, List.length_set, List.take_set, ht]
      unfold Lib.byteCells
      rw [List.map_set]
    · rw [setCell_eq_setRow w g k cur _ _ _ hg]
      exact below_setRow hB hBg _
theorem infoU8 : (Tryd.prog.info? 5).map (fun i => (i.zero, i.size, i.bytes)) = some (some (.int .u8 0), 1, 1) := by kernel_rfl
end Go.Proofs.YtnjepeijihmemaaDoor
