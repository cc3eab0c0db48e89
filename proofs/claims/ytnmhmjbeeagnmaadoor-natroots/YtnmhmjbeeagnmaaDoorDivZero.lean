/-
  Contracts by names: nat.Div by 0, Bits, Gcd, Root.
-/
import Derived.Test.YtnmhmjbeeagnmaaDoorGcd
import Derived.Test.YtnmhmjbeeagnmaaDoorRoot
namespace Go.Proofs.YtnmhmjbeeagnmaaDoor
open Go.RowKit Nt
set_option linter.unusedSimpArgs false
set_option linter.unusedVariables false

theorem div_zero_n (w : World) (p q : Option Addr) (n c m d a b : Nat) (h : Num w p n c a) (h' : Num w q m d b) (h0 : b = 0) :
    Calls Tryd.prog 16 #[.slice p n c, .slice q m d] w fun e w' => e = .returned (.tuple #[.slice none 0 0, .slice none 0 0, .int .i64 11]) ∧ w' = w := by
  obtain ⟨xs, h1, rfl⟩ := h
  obtain ⟨ys, h2, rfl⟩ := h'
  have T1 := hid (trim_s w p n c _ xs rfl h1)
  have T2 := hid (trim_s w q m d 0 ys (by rw [h0]; rfl) h2)
  clear h0 h1 h2
  go_enter Tryd.func16, Tryd.ntmps16
  go_wp2_with fail
  refine T1.out.mono ?_
  rintro e w' ⟨rfl, rfl⟩
  go_wp2_with fail
  refine T2.out.mono ?_
  rintro e w' ⟨rfl, rfl⟩
  go_wp2
  go_ret3
  exact ⟨rfl, rfl⟩

theorem bits_n (w : World) (p : Option Addr) (n c a : Nat) (h : Num w p n c a) (hs : n ≤ 288230376151711743) :
    Calls Tryd.prog 22 #[.slice p n c] w fun e w' => e = .returned (.int .i64 (Go.bitLen a : Nat)) ∧ w' = w := by
  obtain ⟨xs, h1, rfl⟩ := h
  exact bits_c w p n c xs h1 hs
theorem gcd_n (w : World) (p q : Option Addr) (n c m d a b : Nat) (h : Num w p n c a) (h' : Num w q m d b) (hs : n + 1 ≤ 70368744177664) (hs' : m + 1 ≤ 70368744177664) :
    Calls Tryd.prog 6 #[.slice p n c, .slice q m d] w fun e w' => ∃ r cr, e = .returned (.slice r (digs (Nat.gcd a b)).length cr) ∧ Res w w' r cr (Nat.gcd a b) := by
  obtain ⟨xs, h1, rfl⟩ := h
  obtain ⟨ys, h2, rfl⟩ := h'
  exact gcd_c w p q n c m d xs ys h1 h2 hs hs'
theorem root_n (w : World) (p : Option Addr) (n c a : Nat) (h : Num w p n c a) (hs : n ≤ 35184372088832) :
    Calls Tryd.prog 8 #[.slice p n c] w fun e w' => ∃ R r cr, e = .returned (.slice r (digs R).length cr) ∧ Res w w' r cr R ∧ IsRoot a R := by
  obtain ⟨xs, h1, rfl⟩ := h
  exact root_c w p n c xs h1 hs
theorem bitLen_nil (v : Nat) : Go.bitLen v = 0 ↔ v = 0 := by
  constructor
  · intro h
    have := (bitLen_spec v).1
    rw [h] at this
    omega
  · intro h
    rw [h]
    rfl
theorem Num.len {w : World} {p : Option Addr} {n c a k : Nat} (h : Num w p n c a) (hk : n ≤ k) : (digs a).length ≤ k := Nat.le_trans h.dl hk
end Go.Proofs.YtnmhmjbeeagnmaaDoor
