/-
  Numbers with a sign: what zint's small calls hand back, and the law's own eq.
-/
import Derived.Test.YtdadmchlehfiiaaGreatDoorSetA
import Derived.Deep.RegionHeld3
import Derived.Handy
namespace Go.Proofs.YtdadmchlehfiiaaGreatDoor
open Go.RowKit Nt
set_option linter.unusedSimpArgs false
set_option linter.unusedVariables false
set_option maxRecDepth 20000

theorem signed_c (w : World) (neg : Bool) (p : Option Addr) (n c : Nat) (hn : n ≤ 9223372036854775807) :
    Calls Tryz.prog 28 #[.bool neg, .slice p n c] w fun e w' => e = .returned (.agg #[.bool (neg && decide (0 < n)), .slice p n c]) ∧ Below w.heap.size w w' := by
  cases neg with
  | false =>
    go_enter Tryz.func28, Tryz.ntmps28
    go_wp2
    go_returns
    exact ⟨by simp, (Below.refl _ _).alloc (Nat.le_refl _) _⟩
  | true =>
    by_cases h : 0 < n
    · go_enter Tryz.func28, Tryz.ntmps28
      go_wp2
      go_returns
      exact ⟨by simp [h], (Below.refl _ _).alloc (Nat.le_refl _) _⟩
    · go_enter Tryz.func28, Tryz.ntmps28
      go_wp2
      go_returns
      exact ⟨by simp [h], (Below.refl _ _).alloc (Nat.le_refl _) _⟩

/-- A struct in its own block. -/
def Box (w : World) (g : Nat) (neg : Bool) (p : Option Addr) (n c : Nat) : Prop := w.heap[g]? = some (.cells #[.bool neg, .slice p n c] 24)
theorem Box.below {w w' : World} {g n c : Nat} {neg : Bool} {p : Option Addr} (h : Box w g neg p n c) (hb : Below w.heap.size w w') : Box w' g neg p n c :=
  (hb.block g (Array.getElem?_eq_some_iff.1 h).1).trans h
theorem Box.at0 {w : World} {g n c : Nat} {neg : Bool} {p : Option Addr} (h : Box w g neg p n c) : w.cell? ⟨g, 0, none⟩ = some (.bool neg) := by
  have h' : w.heap[g]? = _ := h
  simp [World.cell?, h']
theorem Box.at1 {w : World} {g n c : Nat} {neg : Bool} {p : Option Addr} (h : Box w g neg p n c) : w.cell? ⟨g, 1, none⟩ = some (.slice p n c) := by
  have h' : w.heap[g]? = _ := h
  simp [World.cell?, h']
theorem box_alloc (w : World) (neg : Bool) (p : Option Addr) (n c : Nat) : Box (w.alloc (.cells #[.bool neg, .slice p n c] 24)) w.heap.size neg p n c := heap_alloc_last _ _
theorem below_alloc (w : World) (o : Obj) : Below w.heap.size w (w.alloc o) := (Below.refl _ _).alloc (Nat.le_refl _) _

end Go.Proofs.YtdadmchlehfiiaaGreatDoor
