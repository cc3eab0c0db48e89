/-
  law03's same; rat.Of and the document's Of.
-/
import Derived.Test.YtdadmchlehfiiaaGreatDoorRLowest
import Derived.Test.YtdadmchlehfiiaaGreatDoorRHalf
namespace Go.Proofs.YtdadmchlehfiiaaGreatDoor
open Go.RowKit Nt
set_option linter.unusedSimpArgs false
set_option linter.unusedVariables false
set_option maxRecDepth 20000

set_option maxHeartbeats 2000000 in
theorem rsame_c (w : World) (b t : Bool) (p1 p2 q1 q2 : Option Addr) (L1 k1 L1' k1' L2 k2 L2' k2' : Nat) (D1 D2 : List Nat) (h1 : Sl w p1 L1 k1 D1) (h2 : Sl w p2 L1' k1' D1) (h3 : Sl w q1 L2 k2 D2) (h4 : Sl w q2 L2' k2' D2) :
    Calls Tryz.prog 7 #[.agg #[.bool b, .slice p1 L1 k1, .bool t, .slice q1 L2 k2], .agg #[.bool b, .slice p2 L1' k1', .bool t, .slice q2 L2' k2']] w fun e w' => e = .returned (.bool true) ∧ Below w.heap.size w w' := by
  have B1 := below_alloc w (.cells #[.bool b, .slice p1 L1 k1, .bool t, .slice q1 L2 k2] 26)
  have B2 := below_alloc (w.alloc (.cells #[.bool b, .slice p1 L1 k1, .bool t, .slice q1 L2 k2] 26)) (.cells #[.bool b, .slice p2 L1' k1', .bool t, .slice q2 L2' k2'] 26)
  have X1 := (rbox_alloc w b p1 L1 k1 t q1 L2 k2).below B2
  have X2 := rbox_alloc (w.alloc (.cells #[.bool b, .slice p1 L1 k1, .bool t, .slice q1 L2 k2] 26)) b p2 L1' k1' t q2 L2' k2'
  rw [show (w.alloc (.cells #[.bool b, .slice p1 L1 k1, .bool t, .slice q1 L2 k2] 26)).heap.size = w.heap.size + 1 from by simp] at X2
  have HB := hid (B1.trans (B2.mono B1.size))
  obtain ⟨W, hW⟩ : ∃ W, (w.alloc (.cells #[.bool b, .slice p1 L1 k1, .bool t, .slice q1 L2 k2] 26)).alloc (.cells #[.bool b, .slice p2 L1' k1', .bool t, .slice q2 L2' k2'] 26) = W := ⟨_, rfl⟩
  rw [hW] at X1 X2 HB
  obtain ⟨g, hg⟩ : ∃ g, w.heap.size = g := ⟨_, rfl⟩
  rw [hg] at X1 X2
  have HX1 := hid X1
  have HX2 := hid X2
  have WH1 := hid (whole_c W b p1 p2 L1 k1 L1' k1' D1 (h1.below HB.out) (h2.below HB.out))
  have WH2 := hid (fun (W' : World) (hb : Below w.heap.size w W') => whole_c W' t q1 q2 L2 k2 L2' k2' D2 (h3.below hb) (h4.below hb))
  have a0 := X1.at0
  have a1 := X1.at1
  have b0 := X2.at0
  have b1 := X2.at1
  clear h1 h2 h3 h4 B1 B2 X1 X2
  go_enter Tryz.func7, Tryz.ntmps7
  go_wp2_with fail
  refine WH1.out.mono ?_
  rintro e w1 ⟨rfl, C1⟩
  have HB1 := hid (HB.out.trans (C1.mono HB.out.size))
  have y1 := HX1.out.below C1
  have y2 := HX2.out.below C1
  have a2 := y1.at2
  have a3 := y1.at3
  have b2 := y2.at2
  have b3 := y2.at3
  clear a0 a1 b0 b1 C1 y1 y2 HX1 HX2 hW
  go_wp2_with fail
  refine (WH2.out w1 HB1.out).mono ?_
  rintro e w2 ⟨rfl, C2⟩
  have HB2 := hid (HB1.out.trans (C2.mono HB1.out.size))
  clear C2
  go_wp2
  go_ret
  exact ⟨rfl, HB2.out⟩

/-- A rational is made of two whole numbers in the result's place. -/
theorem of_end {w w2 : World} {gr : Nat} {A : Int} {k : Nat} {r1 r2 : Option Addr} {c1 c2 L1 L2 : Nat} {b1 : Bool} {D1 : List Nat} {s t : Bool} {p q : Option Addr} {n c m d : Nat} (hx : RBox w2 gr s p n c t q m d) (hB : Below w.heap.size w w2) (hg : w.heap.size ≤ gr)
    (S1 : Sl w2 r1 L1 c1 D1) (S2 : Sl w2 r2 L2 c2 (digs 1)) (F1 : ∀ b o, r1 = some ⟨b, o, none⟩ → gr < b) (F2 : ∀ b o, r2 = some ⟨b, o, none⟩ → gr < b) (N1 : Nm b1 L1 D1 A) (hL : L1 ≤ k) (hL2 : L2 ≤ 1) :
    Rt w A 1 k 1 (.returned (.agg #[.bool b1, .slice r1 L1 c1, .bool false, .slice r2 L2 c2])) ((((w2.setCell ⟨gr, 0, none⟩ (.bool b1)).setCell ⟨gr, 1, none⟩ (.slice r1 L1 c1)).setCell ⟨gr, 2, none⟩ (.bool false)).setCell ⟨gr, 3, none⟩ (.slice r2 L2 c2)) :=
  ⟨b1, L1, D1, r1, c1, L2, r2, c2, rfl, below_set4 hB hg, sl_set4 S1 (fun b o e => by have := F1 b o e; omega), sl_set4 S2 (fun b o e => by have := F2 b o e; omega), N1, hL, hL2, fun b o e => by have := F1 b o e; omega, fun b o e => by have := F2 b o e; omega⟩

end Go.Proofs.YtdadmchlehfiiaaGreatDoor
