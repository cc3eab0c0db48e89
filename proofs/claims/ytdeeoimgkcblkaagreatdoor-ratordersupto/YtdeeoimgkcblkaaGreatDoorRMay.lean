/-
  rat.mayBe, of one and of two rationals.
-/
import Derived.Test.YtdeeoimgkcblkaaGreatDoorRArith
namespace Go.Proofs.YtdeeoimgkcblkaaGreatDoor
open Go.RowKit Nt
set_option linter.unusedSimpArgs false
set_option linter.unusedVariables false
set_option maxRecDepth 20000

/-- One rational in a row of its own. -/
theorem mayBe1 (w : World) (g : Nat) (s1 : Bool) (p1 : Option Addr) (n1 c1 : Nat) (t1 : Bool) (q1 : Option Addr) (m1 d1 : Nat) (ys1 : List Nat) (hb : RBox w g s1 p1 n1 c1 t1 q1 m1 d1) (h1 : Sl w q1 m1 d1 ys1) (hs : m1 ≤ 70368744177664) (k : Bool) (hk : k = decide (0 < (sg t1 (val ys1)).sign)) :
    Calls Tryz.prog 8 #[.slice (some ⟨g, 0, none⟩) 1 1] w fun e w' => e = .returned (.bool k) ∧ Below w.heap.size w w' := by
  have b0 := hb.at0
  have b1 := hb.at1
  have b2 := hb.at2
  have b3 := hb.at3
  have SG : Hid (∀ W', Below w.heap.size w W' → Calls Tryz.prog 19 #[.agg #[.bool t1, .slice q1 m1 d1]] W' fun e w' => e = .returned (.int .i64 (sg t1 (val ys1)).sign) ∧ Below W'.heap.size W' w') := fun W' hb => zsign_c W' t1 q1 m1 d1 ys1 (h1.below hb) hs
  obtain ⟨z, hz⟩ : ∃ z, (sg t1 (val ys1)).sign = z := ⟨_, rfl⟩
  rw [hz] at SG hk
  clear h1 hb hz
  cases k with
  | true =>
    have hz : 0 < z := of_decide_eq_true hk.symm
    have hz' : ¬ z ≤ 0 := by omega
    clear hk
    go_enter Tryz.func8, Tryz.ntmps8
    go_wp2
    go_loopw [7] (fun i wr => (i = .int .i64 0 ∧ wr = w) ∨ (i = .int .i64 1 ∧ Hid (Below w.heap.size w wr))) (fun i _ => 1 - (intOf i).toNat)
    case atStart => exact Or.inl ⟨rfl, rfl⟩
    case round =>
      rcases hrel with ⟨rfl, rfl⟩ | ⟨rfl, HB⟩
      · go_wp2_with (go_at_call 19; refine (SG.out _ (below_alloc _ _)).mono ?_; rintro e w1 ⟨rfl, hB⟩)
        go_roundw
        case rel => exact Or.inr ⟨rfl, (below_alloc _ _).trans (hB.mono (by simp))⟩
        case measure => simp [intOf]
      · go_wp2
        go_ret
        exact ⟨rfl, HB.out⟩
  | false =>
    have hz : z ≤ 0 := by have := of_decide_eq_false hk.symm; omega
    clear hk
    go_enter Tryz.func8, Tryz.ntmps8
    go_wp2
    go_loopw [7] (fun i wr => i = .int .i64 0 ∧ wr = w) (fun _ _ => 1)
    case atStart => exact ⟨rfl, rfl⟩
    case round =>
      obtain ⟨rfl, rfl⟩ := hrel
      go_wp2_with (go_at_call 19; refine (SG.out _ (below_alloc _ _)).mono ?_; rintro e w1 ⟨rfl, hB⟩)
      go_ret
      exact ⟨rfl, (below_alloc _ _).trans (hB.mono (by simp))⟩
end Go.Proofs.YtdeeoimgkcblkaaGreatDoor
