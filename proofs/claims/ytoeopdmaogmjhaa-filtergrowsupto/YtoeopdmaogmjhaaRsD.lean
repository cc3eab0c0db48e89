import Derived.Test.YtoeopdmaogmjhaaRsC
/-
 The document's sums and differences of rationals that may be; their order.
-/
namespace Go.Proofs.Ytoeopdmaogmjhaa
open Go.RowKit Nt
set_option linter.unusedSimpArgs false
set_option linter.unusedVariables false
set_option maxRecDepth 20000

/-- What stays true on the way to a rational that is handed back. -/
structure RInv (w w' : World) (g2 : Nat) : Prop where
 below : Below w.heap.size w w'
 box : ∃ s p n c t q m d, RBox w' g2 s p n c t q m d
 fresh : w.heap.size ≤ g2
theorem RInv.drew {w w' : World} {g2 : Nat} (h : RInv w w' g2) : RInv w w'.drew g2 := ⟨h.below.drew, h.box, h.fresh⟩
theorem RInv.call {w w' w'' : World} {g2 : Nat} (h : RInv w w' g2) (hb : Below w'.heap.size w' w'') : RInv w w'' g2 := by
 obtain ⟨s, p, n, c, t, q, m, d, hx⟩ := h.box
 exact ⟨h.below.trans (hb.mono h.below.size), ⟨s, p, n, c, t, q, m, d, hx.below hb⟩, h.fresh⟩
theorem RInv.lt {w w' : World} {g2 : Nat} (h : RInv w w' g2) : g2 < w'.heap.size := by
 obtain ⟨s, p, n, c, t, q, m, d, hx⟩ := h.box
 exact hx.lt
theorem RInv.set {w w' : World} {g2 : Nat} (h : RInv w w' g2) (s : Bool) (p : Option Addr) (n c : Nat) (t : Bool) (q : Option Addr) (m d : Nat) : RInv w ((((w'.setCell ⟨g2, 0, none⟩ (.bool s)).setCell ⟨g2, 1, none⟩ (.slice p n c)).setCell ⟨g2, 2, none⟩ (.bool t)).setCell ⟨g2, 3, none⟩ (.slice q m d)) g2 := by
 obtain ⟨s0, p0, n0, c0, t0, q0, m0, d0, hx⟩ := h.box
 exact ⟨below_set4 h.below h.fresh, ⟨_, _, _, _, _, _, _, _, hx.set s p n c t q m d⟩, h.fresh⟩

section
variable {w w1 w2 : World} {a1 a2 a3 a4 a5 a6 a7 a8 : Addr} {v1 v2 v3 v4 v5 v6 v7 v8 : Value} {g2 : Nat}
end

/-- The numerator of X by Y in lowest terms. -/
def nR (X : Int) (Y : Nat) : Int := sg (ng X) (X.natAbs / Nat.gcd X.natAbs Y)
/-- The denominator. -/
def dR (X : Int) (Y : Nat) : Nat := Y / Nat.gcd X.natAbs Y
theorem nR_sg (s : Bool) (x y : Nat) : nR (sg s x) y = sg s (x / Nat.gcd x y) := by unfold nR; rw [sg_abs, sg_same]
theorem dR_sg (s : Bool) (x y : Nat) : dR (sg s x) y = y / Nat.gcd x y := by unfold dR; rw [sg_abs]
theorem dR_ne {X : Int} {Y : Nat} (h : Y ≠ 0) : dR X Y ≠ 0 := by
 unfold dR
 have h1 := Nat.gcd_le_right X.natAbs (Nat.pos_of_ne_zero h)
 have h2 : 0 < Nat.gcd X.natAbs Y := Nat.gcd_pos_of_pos_right _ (Nat.pos_of_ne_zero h)
 exact Nat.ne_of_gt (Nat.div_pos h1 h2)
theorem mul_sg (G : Nat) (s : Bool) (x : Nat) : (G : Int) * sg s x = sg s (G * x) := by cases s <;> simp [sg, Int.mul_neg]
theorem g_nR (X : Int) (Y : Nat) : (Nat.gcd X.natAbs Y : Int) * nR X Y = X := by
 unfold nR
 rw [mul_sg, Nat.mul_div_cancel' (Nat.gcd_dvd_left _ _), sg_sign]
theorem g_dR (X : Int) (Y : Nat) : Nat.gcd X.natAbs Y * dR X Y = Y := by
 unfold dR
 exact Nat.mul_div_cancel' (Nat.gcd_dvd_right _ _)
section
variable {w w1 w2 : World} {a1 a2 a3 a4 a5 a6 a7 a8 : Addr} {v1 v2 v3 v4 v5 v6 v7 v8 : Value} {g2 : Nat}
end

end Go.Proofs.Ytoeopdmaogmjhaa

/-
 The document's negative of a rational that may be.
-/
namespace Go.Proofs.Ytoeopdmaogmjhaa
open Go.RowKit Nt
set_option linter.unusedSimpArgs false
set_option linter.unusedVariables false
set_option maxRecDepth 20000

end Go.Proofs.Ytoeopdmaogmjhaa

/-
 The document's sum of two rationals that may be; the difference; the order.
-/
namespace Go.Proofs.Ytoeopdmaogmjhaa
open Go.RowKit Nt
set_option linter.unusedSimpArgs false
set_option linter.unusedVariables false
set_option maxRecDepth 20000

end Go.Proofs.Ytoeopdmaogmjhaa

/-
 The document's difference of two rationals that may be, and their order.
-/
namespace Go.Proofs.Ytoeopdmaogmjhaa
open Go.RowKit Nt
set_option linter.unusedSimpArgs false
set_option linter.unusedVariables false
set_option maxRecDepth 20000

/-- Into a call of two rationals that hands none back. -/
theorem renter2b (w : World) (s1 : Bool) (p1 : Option Addr) (n1 c1 : Nat) (t1 : Bool) (q1 : Option Addr) (m1 d1 : Nat) (s2 : Bool) (p2 : Option Addr) (n2 c2 : Nat) (t2 : Bool) (q2 : Option Addr) (m2 d2 : Nat) :
  ∃ W g, w.heap.size = g ∧ (w.alloc (.cells #[.bool s1, .slice p1 n1 c1, .bool t1, .slice q1 m1 d1] 32)).alloc (.cells #[.bool s2, .slice p2 n2 c2, .bool t2, .slice q2 m2 d2] 32) = W ∧
   W.cell? ⟨g, 0, none⟩ = some (.bool s1) ∧ W.cell? ⟨g, 1, none⟩ = some (.slice p1 n1 c1) ∧ W.cell? ⟨g, 2, none⟩ = some (.bool t1) ∧ W.cell? ⟨g, 3, none⟩ = some (.slice q1 m1 d1) ∧
   W.cell? ⟨g + 1, 0, none⟩ = some (.bool s2) ∧ W.cell? ⟨g + 1, 1, none⟩ = some (.slice p2 n2 c2) ∧ W.cell? ⟨g + 1, 2, none⟩ = some (.bool t2) ∧ W.cell? ⟨g + 1, 3, none⟩ = some (.slice q2 m2 d2) ∧ Hid (Below w.heap.size w W) := by
 have B1 := below_alloc w (.cells #[.bool s1, .slice p1 n1 c1, .bool t1, .slice q1 m1 d1] 32)
 have B2 := below_alloc (w.alloc (.cells #[.bool s1, .slice p1 n1 c1, .bool t1, .slice q1 m1 d1] 32)) (.cells #[.bool s2, .slice p2 n2 c2, .bool t2, .slice q2 m2 d2] 32)
 have X1 := (rbox_alloc w s1 p1 n1 c1 t1 q1 m1 d1).below B2
 have X2 := rbox_alloc (w.alloc (.cells #[.bool s1, .slice p1 n1 c1, .bool t1, .slice q1 m1 d1] 32)) s2 p2 n2 c2 t2 q2 m2 d2
 rw [show (w.alloc (.cells #[.bool s1, .slice p1 n1 c1, .bool t1, .slice q1 m1 d1] 32)).heap.size = w.heap.size + 1 from by simp] at X2
 exact ⟨_, _, rfl, rfl, X1.at0, X1.at1, X1.at2, X1.at3, X2.at0, X2.at1, X2.at2, X2.at3, B1.trans (B2.mono B1.size)⟩

end Go.Proofs.Ytoeopdmaogmjhaa

/-
 rat.mayBe, of one and of two rationals.
-/
namespace Go.Proofs.Ytoeopdmaogmjhaa
open Go.RowKit Nt
set_option linter.unusedSimpArgs false
set_option linter.unusedVariables false
set_option maxRecDepth 20000

/-- One rational in a row of its own. -/
theorem mayBe1 (w : World) (g : Nat) (s1 : Bool) (p1 : Option Addr) (n1 c1 : Nat) (t1 : Bool) (q1 : Option Addr) (m1 d1 : Nat) (ys1 : List Nat) (hb : RBox w g s1 p1 n1 c1 t1 q1 m1 d1) (h1 : Sl w q1 m1 d1 ys1) (hs : m1 ≤ 70368744177664) (k : Bool) (hk : k = decide (0 < (sg t1 (val ys1)).sign)) :
    Calls Try.prog 22 #[.slice (some ⟨g, 0, none⟩) 1 1] w fun e w' => e = .returned (.bool k) ∧ Below w.heap.size w w' := by
  have b0 := hb.at0
  have b1 := hb.at1
  have b2 := hb.at2
  have b3 := hb.at3
  have SG : Hid (∀ W', Below w.heap.size w W' → Calls Try.prog 27 #[.agg #[.bool t1, .slice q1 m1 d1]] W' fun e w' => e = .returned (.int .i64 (sg t1 (val ys1)).sign) ∧ Below W'.heap.size W' w') := fun W' hb => zsign_c W' t1 q1 m1 d1 ys1 (h1.below hb) hs
  obtain ⟨z, hz⟩ : ∃ z, (sg t1 (val ys1)).sign = z := ⟨_, rfl⟩
  rw [hz] at SG hk
  clear h1 hb hz
  cases k with
  | true =>
    have hz : 0 < z := of_decide_eq_true hk.symm
    have hz' : ¬ z ≤ 0 := by omega
    clear hk
    go_enter Try.func22, Try.ntmps22
    go_wp2
    go_loopw [7] (fun i wr => (i = .int .i64 0 ∧ wr = w) ∨ (i = .int .i64 1 ∧ Hid (Below w.heap.size w wr))) (fun i _ => 1 - (intOf i).toNat)
    case atStart => exact Or.inl ⟨rfl, rfl⟩
    case round =>
      rcases hrel with ⟨rfl, rfl⟩ | ⟨rfl, HB⟩
      · go_wp2_with (go_at_call 27; refine (SG.out _ (below_alloc _ _)).mono ?_; rintro e w1 ⟨rfl, hB⟩)
        go_roundw
        case rel => exact Or.inr ⟨rfl, (below_alloc _ _).trans (hB.mono (by simp))⟩
        case measure => simp [intOf]
      · go_wp2
        go_ret
        exact ⟨rfl, HB.out⟩
  | false =>
    have hz : z ≤ 0 := by have := of_decide_eq_false hk.symm; omega
    clear hk
    go_enter Try.func22, Try.ntmps22
    go_wp2
    go_loopw [7] (fun i wr => i = .int .i64 0 ∧ wr = w) (fun _ _ => 1)
    case atStart => exact ⟨rfl, rfl⟩
    case round =>
      obtain ⟨rfl, rfl⟩ := hrel
      go_wp2_with (go_at_call 27; refine (SG.out _ (below_alloc _ _)).mono ?_; rintro e w1 ⟨rfl, hB⟩)
      go_ret
      exact ⟨rfl, (below_alloc _ _).trans (hB.mono (by simp))⟩
end Go.Proofs.Ytoeopdmaogmjhaa

/-
 rat.Cmp; may both be.
-/
namespace Go.Proofs.Ytoeopdmaogmjhaa
open Go.RowKit Nt
set_option linter.unusedSimpArgs false
set_option linter.unusedVariables false
set_option maxRecDepth 20000

theorem keepB8 {w w1 w2 : World} {a1 a2 a3 a4 a5 a6 a7 a8 : Addr} {v1 v2 v3 v4 v5 v6 v7 v8 : Value} (h : w1.cell? a1 = some v1 ∧ w1.cell? a2 = some v2 ∧ w1.cell? a3 = some v3 ∧ w1.cell? a4 = some v4 ∧ w1.cell? a5 = some v5 ∧ w1.cell? a6 = some v6 ∧ w1.cell? a7 = some v7 ∧ w1.cell? a8 = some v8 ∧ Hid (Below w.heap.size w w1)) (hb : Below w1.heap.size w1 w2) : w2.cell? a1 = some v1 ∧ w2.cell? a2 = some v2 ∧ w2.cell? a3 = some v3 ∧ w2.cell? a4 = some v4 ∧ w2.cell? a5 = some v5 ∧ w2.cell? a6 = some v6 ∧ w2.cell? a7 = some v7 ∧ w2.cell? a8 = some v8 ∧ Hid (Below w.heap.size w w2) :=
 ⟨cell_below h.1 hb, cell_below h.2.1 hb, cell_below h.2.2.1 hb, cell_below h.2.2.2.1 hb, cell_below h.2.2.2.2.1 hb, cell_below h.2.2.2.2.2.1 hb, cell_below h.2.2.2.2.2.2.1 hb, cell_below h.2.2.2.2.2.2.2.1 hb, Below.trans h.2.2.2.2.2.2.2.2 (hb.mono (Below.size h.2.2.2.2.2.2.2.2))⟩
theorem belB8 {A1 A2 A3 A4 A5 A6 A7 A8 : Prop} {w w' : World} (h : A1 ∧ A2 ∧ A3 ∧ A4 ∧ A5 ∧ A6 ∧ A7 ∧ A8 ∧ Hid (Below w.heap.size w w')) : Below w.heap.size w w' := h.2.2.2.2.2.2.2.2

/-- Two rationals in a row. -/
def RBox2 (w : World) (g : Nat) (s1 : Bool) (p1 : Option Addr) (n1 c1 : Nat) (t1 : Bool) (q1 : Option Addr) (m1 d1 : Nat) (s2 : Bool) (p2 : Option Addr) (n2 c2 : Nat) (t2 : Bool) (q2 : Option Addr) (m2 d2 : Nat) : Prop :=
 w.heap[g]? = some (.cells #[.bool s1, .slice p1 n1 c1, .bool t1, .slice q1 m1 d1, .bool s2, .slice p2 n2 c2, .bool t2, .slice q2 m2 d2] 32)
theorem at8 {w : World} {g i : Nat} {cs : Array Value} {t : TypeId} (h : w.heap[g]? = some (.cells cs t)) : w.cell? ⟨g, i, none⟩ = cs[i]? := by simp [World.cell?, h]

set_option maxHeartbeats 2000000 in
theorem mayBe2 (w : World) (g : Nat) (s1 : Bool) (p1 : Option Addr) (n1 c1 : Nat) (t1 : Bool) (q1 : Option Addr) (m1 d1 : Nat) (s2 : Bool) (p2 : Option Addr) (n2 c2 : Nat) (t2 : Bool) (q2 : Option Addr) (m2 d2 : Nat) (ys1 ys2 : List Nat)
    (hb : RBox2 w g s1 p1 n1 c1 t1 q1 m1 d1 s2 p2 n2 c2 t2 q2 m2 d2) (h1 : Sl w q1 m1 d1 ys1) (h2 : Sl w q2 m2 d2 ys2) (hs : m1 ≤ 70368744177664) (hs' : m2 ≤ 70368744177664) (k : Bool) (hk : k = (decide (0 < (sg t1 (val ys1)).sign) && decide (0 < (sg t2 (val ys2)).sign))) :
    Calls Try.prog 22 #[.slice (some ⟨g, 0, none⟩) 2 2] w fun e w' => e = .returned (.bool k) ∧ Below w.heap.size w w' := by
  have b0 : w.cell? ⟨g, 0, none⟩ = some (.bool s1) := at8 hb
  have b1 : w.cell? ⟨g, 1, none⟩ = some (.slice p1 n1 c1) := at8 hb
  have b2 : w.cell? ⟨g, 2, none⟩ = some (.bool t1) := at8 hb
  have b3 : w.cell? ⟨g, 3, none⟩ = some (.slice q1 m1 d1) := at8 hb
  have b4 : w.cell? ⟨g, 4, none⟩ = some (.bool s2) := at8 hb
  have b5 : w.cell? ⟨g, 5, none⟩ = some (.slice p2 n2 c2) := at8 hb
  have b6 : w.cell? ⟨g, 6, none⟩ = some (.bool t2) := at8 hb
  have b7 : w.cell? ⟨g, 7, none⟩ = some (.slice q2 m2 d2) := at8 hb
  have SG1 : Hid (∀ W', Below w.heap.size w W' → Calls Try.prog 27 #[.agg #[.bool t1, .slice q1 m1 d1]] W' fun e w' => e = .returned (.int .i64 (sg t1 (val ys1)).sign) ∧ Below W'.heap.size W' w') := fun W' hb => zsign_c W' t1 q1 m1 d1 ys1 (h1.below hb) hs
  have SG2 : Hid (∀ W', Below w.heap.size w W' → Calls Try.prog 27 #[.agg #[.bool t2, .slice q2 m2 d2]] W' fun e w' => e = .returned (.int .i64 (sg t2 (val ys2)).sign) ∧ Below W'.heap.size W' w') := fun W' hb => zsign_c W' t2 q2 m2 d2 ys2 (h2.below hb) hs'
  obtain ⟨z, hz⟩ : ∃ z, (sg t1 (val ys1)).sign = z := ⟨_, rfl⟩
  obtain ⟨y, hy⟩ : ∃ y, (sg t2 (val ys2)).sign = y := ⟨_, rfl⟩
  rw [hz] at SG1 hk
  rw [hy] at SG2 hk
  clear h1 h2 hb hz hy
  by_cases hz : z ≤ 0
  · obtain rfl : k = false := by rw [hk, decide_eq_false (by omega)]; rfl
    clear hk
    go_enter Try.func22, Try.ntmps22
    go_wp2
    go_loopw [7] (fun i wr => i = .int .i64 0 ∧ wr = w) (fun _ _ => 1)
    case atStart => exact ⟨rfl, rfl⟩
    case round =>
      obtain ⟨rfl, rfl⟩ := hrel
      go_wp2_with (go_at_call 27; refine (SG1.out _ (below_alloc _ _)).mono ?_; rintro e w1 ⟨rfl, hB⟩)
      go_ret
      exact ⟨rfl, (below_alloc _ _).trans (hB.mono (by simp))⟩
  · by_cases hy : y ≤ 0
    · obtain rfl : k = false := by rw [hk, decide_eq_false (p := 0 < y) (by omega)]; simp
      clear hk
      go_enter Try.func22, Try.ntmps22
      go_wp2
      go_loopw [7] (fun i wr => (i = .int .i64 0 ∧ wr = w) ∨ (i = .int .i64 1 ∧ Hid (Below w.heap.size w wr))) (fun i _ => 2 - (intOf i).toNat)
      case atStart => exact Or.inl ⟨rfl, rfl⟩
      case round =>
        rcases hrel with ⟨rfl, rfl⟩ | ⟨rfl, HB⟩
        · go_wp2_with (go_at_call 27; refine (SG1.out _ (below_alloc _ _)).mono ?_; rintro e w1 ⟨rfl, hB⟩)
          go_roundw
          case rel => exact Or.inr ⟨rfl, (below_alloc _ _).trans (hB.mono (by simp))⟩
          case measure => simp [intOf]
        · replace b4 := cell_below b4 HB.out
          replace b5 := cell_below b5 HB.out
          replace b6 := cell_below b6 HB.out
          replace b7 := cell_below b7 HB.out
          go_wp2_with (go_at_call 27; refine (SG2.out _ (HB.out.trans ((below_alloc _ _).mono HB.out.size))).mono ?_; rintro e w1 ⟨rfl, hB⟩)
          go_ret
          exact ⟨rfl, HB.out.trans (((below_alloc _ _).trans (hB.mono (by simp))).mono HB.out.size)⟩
    · obtain rfl : k = true := by rw [hk, decide_eq_true (p := 0 < y) (by omega), decide_eq_true (p := 0 < z) (by omega)]; rfl
      clear hk
      go_enter Try.func22, Try.ntmps22
      go_wp2
      go_loopw [7] (fun i wr => (i = .int .i64 0 ∧ wr = w) ∨ (i = .int .i64 1 ∧ Hid (Below w.heap.size w wr)) ∨ (i = .int .i64 2 ∧ Hid (Below w.heap.size w wr))) (fun i _ => 2 - (intOf i).toNat)
      case atStart => exact Or.inl ⟨rfl, rfl⟩
      case round =>
        rcases hrel with ⟨rfl, rfl⟩ | ⟨rfl, HB⟩ | ⟨rfl, HB⟩
        · go_wp2_with (go_at_call 27; refine (SG1.out _ (below_alloc _ _)).mono ?_; rintro e w1 ⟨rfl, hB⟩)
          go_roundw
          case rel => exact Or.inr (Or.inl ⟨rfl, (below_alloc _ _).trans (hB.mono (by simp))⟩)
          case measure => simp [intOf]
        · replace b4 := cell_below b4 HB.out
          replace b5 := cell_below b5 HB.out
          replace b6 := cell_below b6 HB.out
          replace b7 := cell_below b7 HB.out
          go_wp2_with (go_at_call 27; refine (SG2.out _ (HB.out.trans ((below_alloc _ _).mono HB.out.size))).mono ?_; rintro e w1 ⟨rfl, hB⟩)
          go_roundw
          case rel => exact Or.inr (Or.inr ⟨rfl, HB.out.trans (((below_alloc _ _).trans (hB.mono (by simp))).mono HB.out.size)⟩)
          case measure => simp [intOf]
        · go_wp2
          go_ret
          exact ⟨rfl, HB.out⟩

set_option maxHeartbeats 4000000 in
theorem ratcmp_ok (w : World) (s1 : Bool) (p1 : Option Addr) (n1 c1 : Nat) (xs1 : List Nat) (q1 : Option Addr) (m1 d1 : Nat) (s2 : Bool) (p2 : Option Addr) (n2 c2 : Nat) (xs2 : List Nat) (q2 : Option Addr) (m2 d2 : Nat) (ys1 ys2 : List Nat)
    (g1 : Sl w p1 n1 c1 xs1) (g2 : Sl w p2 n2 c2 xs2) (h1 : Sl w q1 m1 d1 ys1) (h2 : Sl w q2 m2 d2 ys2) (y1 : val ys1 ≠ 0) (y2 : val ys2 ≠ 0) (b1 : n1 ≤ 8388608) (b2 : m1 ≤ 8388608) (b3 : n2 ≤ 8388608) (b4 : m2 ≤ 8388608) :
    Calls Try.prog 9 #[.agg #[.bool s1, .slice p1 n1 c1, .bool false, .slice q1 m1 d1], .agg #[.bool s2, .slice p2 n2 c2, .bool false, .slice q2 m2 d2]] w fun e w' => e = .returned (.tuple #[.int .i64 (sg s1 (val xs1) * (val ys2 : Nat) - sg s2 (val xs2) * (val ys1 : Nat)).sign, .int .i64 0]) ∧ Below w.heap.size w w' := by
  obtain ⟨W, g, hg, hW, a0, a1, a2, a3, e0, e1, e2, e3, HB⟩ := renter2b w s1 p1 n1 c1 false q1 m1 d1 s2 p2 n2 c2 false q2 m2 d2
  have B3 := below_alloc W (.cells #[.bool s1, .slice p1 n1 c1, .bool false, .slice q1 m1 d1, .bool s2, .slice p2 n2 c2, .bool false, .slice q2 m2 d2] 32)
  have HB3 := hid (HB.out.trans (B3.mono HB.out.size))
  have MB := hid (mayBe2 _ _ s1 p1 n1 c1 false q1 m1 d1 s2 p2 n2 c2 false q2 m2 d2 ys1 ys2 (heap_alloc_last W _) (h1.below HB3.out) (h2.below HB3.out) (by omega) (by omega) true (by rw [sign_pos y1, sign_pos y2]; rfl))
  have sgf : ∀ y : Nat, sg false y = (y : Int) := fun y => by unfold sg; simp
  have M1 : Hid (∀ W', Below w.heap.size w W' → _) := fun W' hb => zmul_g W' s1 false p1 q2 n1 c1 m2 d2 xs1 ys2 (sg s1 (val xs1)) (val ys2 : Nat) rfl (sgf _) (g1.below hb) (h2.below hb) (by omega)
  have M2 : Hid (∀ W', Below w.heap.size w W' → _) := fun W' hb => zmul_g W' s2 false p2 q1 n2 c2 m1 d1 xs2 ys1 (sg s2 (val xs2)) (val ys1 : Nat) rfl (sgf _) (g2.below hb) (h1.below hb) (by omega)
  have d0 := cell_below a0 B3
  have d1' := cell_below a1 B3
  have d2' := cell_below a2 B3
  have d3 := cell_below a3 B3
  have f0 := cell_below e0 B3
  have f1 := cell_below e1 B3
  have f2 := cell_below e2 B3
  have f3 := cell_below e3 B3
  generalize sg s1 (val xs1) * (val ys2 : Nat) = P1 at *
  generalize sg s2 (val xs2) * (val ys1 : Nat) = P2 at *
  obtain ⟨z, hz⟩ : ∃ z, (P1 - P2).sign = z := ⟨_, rfl⟩
  rw [hz]
  have HZ := hid hz
  clear g1 g2 h1 h2 y1 y2 B3 sgf hz
  go_enter Try.func9, Try.ntmps9
  go_wp2_with fail
  refine MB.out.mono ?_
  rintro e w1 ⟨rfl, hB⟩
  have HF := hid (HB3.out.trans (hB.mono HB3.out.size))
  replace d0 := cell_below d0 hB
  replace d1' := cell_below d1' hB
  replace d2' := cell_below d2' hB
  replace d3 := cell_below d3 hB
  replace f0 := cell_below f0 hB
  replace f1 := cell_below f1 hB
  replace f2 := cell_below f2 hB
  replace f3 := cell_below f3 hB
  clear hB MB a0 a1 a2 a3 e0 e1 e2 e3 hW
  go_wp2
  go_region_held3 (fun w' => w'.cell? ⟨g, 0, none⟩ = some (.bool s1) ∧ w'.cell? ⟨g, 1, none⟩ = some (.slice p1 n1 c1) ∧ w'.cell? ⟨g, 2, none⟩ = some (.bool false) ∧ w'.cell? ⟨g, 3, none⟩ = some (.slice q1 m1 d1) ∧ w'.cell? ⟨g + 1, 0, none⟩ = some (.bool s2) ∧ w'.cell? ⟨g + 1, 1, none⟩ = some (.slice p2 n2 c2) ∧ w'.cell? ⟨g + 1, 2, none⟩ = some (.bool false) ∧ w'.cell? ⟨g + 1, 3, none⟩ = some (.slice q2 m2 d2) ∧ Hid (Below w.heap.size w w'))
    (first | (with_reducible exact keepB8 (by assumption) hBz) | (exact ⟨d0, d1', d2', d3, f0, f1, f2, f3, HF.out.drew⟩) | fail)
    (first | (go_at_call_of 25 (Value.slice p1 n1 c1); refine (M1.out _ (belB8 (by assumption))).mono ?_; rintro e wa ⟨bA, LA, DA, rA, kA, rfl, hBz, SA, NA, lA⟩)
           | (go_at_call_of 25 (Value.slice p2 n2 c2); refine (M2.out _ (belB8 (by assumption))).mono ?_; rintro e wb ⟨bB, LB, DB, rB, kB, rfl, hBz, SB, NB, lB⟩; have SA2 := hid (SA.out.below hBz))
           | (go_at_call 11; refine (zcompare_c _ bA bB rA rB LA kA LB kB DA DB SA2.out SB.out (by omega) (by omega)).mono ?_; rintro e wc ⟨rfl, hBz⟩; have HT := hid (keepB8 (w := w) (by assumption) hBz)))
  go_wp2
  go_ret2
  first | exact ⟨by rw [NA.out.sg, NB.out.sg, HZ.out]; rfl, belB8 HT.out⟩ | exact ⟨by rw [NA.out.sg, NB.out.sg, HZ.out]; rfl, by rw [← hg]; exact belB8 HT.out⟩
end Go.Proofs.Ytoeopdmaogmjhaa
