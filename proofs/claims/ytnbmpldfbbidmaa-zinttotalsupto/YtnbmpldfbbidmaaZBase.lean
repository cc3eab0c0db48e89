/-
  Numbers with a sign: what zint's small calls hand back, and the law's own eq.
-/
import Derived.Test.YtnbmpldfbbidmaaSetA
import Derived.Deep.RegionHeld3
import Derived.Handy
namespace Go.Proofs.Ytnbmpldfbbidmaa
open Go.RowKit Nt
set_option linter.unusedSimpArgs false
set_option linter.unusedVariables false

theorem signed_c (w : World) (neg : Bool) (p : Option Addr) (n c : Nat) (hn : n ≤ 9223372036854775807) :
    Calls Try.prog 22 #[.bool neg, .slice p n c] w fun e w' => e = .returned (.agg #[.bool (neg && decide (0 < n)), .slice p n c]) ∧ Below w.heap.size w w' := by
  cases neg with
  | false =>
    go_enter Try.func22, Try.ntmps22
    go_wp2
    go_returns
    exact ⟨by simp, (Below.refl _ _).alloc (Nat.le_refl _) _⟩
  | true =>
    by_cases h : 0 < n
    · go_enter Try.func22, Try.ntmps22
      go_wp2
      go_returns
      exact ⟨by simp [h], (Below.refl _ _).alloc (Nat.le_refl _) _⟩
    · go_enter Try.func22, Try.ntmps22
      go_wp2
      go_returns
      exact ⟨by simp [h], (Below.refl _ _).alloc (Nat.le_refl _) _⟩

/-- A struct in its own block. -/
def Box (w : World) (g : Nat) (neg : Bool) (p : Option Addr) (n c : Nat) : Prop := w.heap[g]? = some (.cells #[.bool neg, .slice p n c] 25)
theorem Box.below {w w' : World} {g n c : Nat} {neg : Bool} {p : Option Addr} (h : Box w g neg p n c) (hb : Below w.heap.size w w') : Box w' g neg p n c :=
  (hb.block g (Array.getElem?_eq_some_iff.1 h).1).trans h
theorem Box.at0 {w : World} {g n c : Nat} {neg : Bool} {p : Option Addr} (h : Box w g neg p n c) : w.cell? ⟨g, 0, none⟩ = some (.bool neg) := by
  have h' : w.heap[g]? = _ := h
  simp [World.cell?, h']
theorem Box.at1 {w : World} {g n c : Nat} {neg : Bool} {p : Option Addr} (h : Box w g neg p n c) : w.cell? ⟨g, 1, none⟩ = some (.slice p n c) := by
  have h' : w.heap[g]? = _ := h
  simp [World.cell?, h']
theorem box_alloc (w : World) (neg : Bool) (p : Option Addr) (n c : Nat) : Box (w.alloc (.cells #[.bool neg, .slice p n c] 25)) w.heap.size neg p n c := heap_alloc_last _ _
theorem below_alloc (w : World) (o : Obj) : Below w.heap.size w (w.alloc o) := (Below.refl _ _).alloc (Nat.le_refl _) _

set_option maxHeartbeats 1000000 in
/-- Are two numbers in one form the same? -/
theorem eq_c (w : World) (neg : Bool) (p q : Option Addr) (n c m d : Nat) (xs : List Nat) (h : Sl w p n c xs) (h' : Sl w q m d xs) :
    Calls Try.prog 5 #[.agg #[.bool neg, .slice p n c], .agg #[.bool neg, .slice q m d]] w fun e w' => e = .returned (.bool true) ∧ Below w.heap.size w w' := by
  have hnm : n = m := by rw [← h.len, ← h'.len]
  subst hnm
  have hc := h.cap
  have hm := h.max
  unfold maxLen at hm
  have B1 := below_alloc w (.cells #[.bool neg, .slice p n c] 25)
  have B2 := below_alloc (w.alloc (.cells #[.bool neg, .slice p n c] 25)) (.cells #[.bool neg, .slice q n d] 25)
  have X1 := (box_alloc w neg p n c).below B2
  have X2 := box_alloc (w.alloc (.cells #[.bool neg, .slice p n c] 25)) neg q n d
  rw [show (w.alloc (.cells #[.bool neg, .slice p n c] 25)).heap.size = w.heap.size + 1 from by simp] at X2
  have HX := hid ((h.below B1).below B2)
  have HY := hid ((h'.below B1).below B2)
  have HB := hid (B1.trans (B2.mono B1.size))
  obtain ⟨W, hW⟩ : ∃ W, (w.alloc (.cells #[.bool neg, .slice p n c] 25)).alloc (.cells #[.bool neg, .slice q n d] 25) = W := ⟨_, rfl⟩
  rw [hW] at X1 X2 HX HY HB
  have X10 := X1.at1
  have X20 := X2.at1
  have X11 := X1.at0
  have X21 := X2.at0
  obtain ⟨g, hg⟩ : ∃ g, w.heap.size = g := ⟨_, rfl⟩
  rw [hg] at X10 X20 X11 X21
  clear h h' B1 B2 X1 X2
  go_enter Try.func5, Try.ntmps5
  go_wp2
  clear hW
  go_loopw [5] (fun i wr => ∃ k : Nat, k ≤ n ∧ i = .int .i64 k ∧ ∃ nq, wr = W.drewN nq) (fun i _ => n - (intOf i).toNat)
  case atStart => exact ⟨0, Nat.zero_le _, rfl, 0, rfl⟩
  case round =>
    obtain ⟨k, hk, rfl, nq, rfl⟩ := hrel
    by_cases hlt : k < n
    · obtain ⟨b, o, rfl, hcell⟩ := HX.out.lie k (by rw [HX.out.len]; exact hlt)
      obtain ⟨b', o', rfl, hcell'⟩ := HY.out.lie k (by rw [HY.out.len]; exact hlt)
      obtain ⟨x, hx⟩ : ∃ x, xs.getD k 0 = x := ⟨_, rfl⟩
      rw [hx] at hcell hcell'
      clear hx
      go_wp2_with fail
      go_quiet (fail)
      go_wp2
      go_roundw
      case rel => exact ⟨k + 1, by omega, by go_num, dr1 _ _⟩
      case measure => simp [intOf]; omega
    · go_wp2
      go_ret
      exact ⟨rfl, below_drewN' HB.out _⟩
end Go.Proofs.Ytnbmpldfbbidmaa
