/-
  The law's own helpers: whole, half.
-/
import Derived.Test.YtaplbadcpbollaaGreatDoorSetG
import Derived.Test.YtaplbadcpbollaaGreatDoorSetE
namespace Go.Proofs.YtaplbadcpbollaaGreatDoor
open Go.RowKit Nt
set_option linter.unusedSimpArgs false
set_option linter.unusedVariables false
set_option maxRecDepth 20000

set_option maxHeartbeats 1000000 in
/-- Are two numbers in one form the same? -/
theorem whole_c (w : World) (neg : Bool) (p q : Option Addr) (n c m d : Nat) (xs : List Nat) (h : Sl w p n c xs) (h' : Sl w q m d xs) :
    Calls Tryz.prog 30 #[.agg #[.bool neg, .slice p n c], .agg #[.bool neg, .slice q m d]] w fun e w' => e = .returned (.bool true) ∧ Below w.heap.size w w' := by
  have hnm : n = m := by rw [← h.len, ← h'.len]
  subst hnm
  have hc := h.cap
  have hm := h.max
  unfold maxLen at hm
  have B1 := below_alloc w (.cells #[.bool neg, .slice p n c] 24)
  have B2 := below_alloc (w.alloc (.cells #[.bool neg, .slice p n c] 24)) (.cells #[.bool neg, .slice q n d] 24)
  have X1 := (box_alloc w neg p n c).below B2
  have X2 := box_alloc (w.alloc (.cells #[.bool neg, .slice p n c] 24)) neg q n d
  rw [show (w.alloc (.cells #[.bool neg, .slice p n c] 24)).heap.size = w.heap.size + 1 from by simp] at X2
  have HX := hid ((h.below B1).below B2)
  have HY := hid ((h'.below B1).below B2)
  have HB := hid (B1.trans (B2.mono B1.size))
  obtain ⟨W, hW⟩ : ∃ W, (w.alloc (.cells #[.bool neg, .slice p n c] 24)).alloc (.cells #[.bool neg, .slice q n d] 24) = W := ⟨_, rfl⟩
  rw [hW] at X1 X2 HX HY HB
  have X10 := X1.at1
  have X20 := X2.at1
  have X11 := X1.at0
  have X21 := X2.at0
  obtain ⟨g, hg⟩ : ∃ g, w.heap.size = g := ⟨_, rfl⟩
  rw [hg] at X10 X20 X11 X21
  clear h h' B1 B2 X1 X2
  go_enter Tryz.func30, Tryz.ntmps30
  go_wp2
  clear hW
  go_loopw [5] (fun i wr => ∃ k : Nat, k ≤ n ∧ i = .int .i64 k ∧ ∃ nq, wr = W.drewN nq) (fun i _ => n - (intOf i).toNat)
  case atStart => exact ⟨0, Nat.zero_le _, rfl, 0, rfl⟩
  case round =>
    obtain ⟨k, hk, rfl, nq, rfl⟩ := hrel
    by_cases hlt : k < n
    · obtain ⟨b, o, rfl, hcell⟩ := HX.out.lie k (by rw [HX.out.len]; exact hlt)
      obtain ⟨b', o', rfl, hcell'⟩ := HY.out.lie k (by rw [HY.out.len]; exact hlt)
      obtain ⟨x, hx⟩ : ∃ x, xs.getD k 0 = x := ⟨_, rfl⟩
      rw [hx] at hcell hcell'
      clear hx
      go_wp2_with fail
      go_quiet (fail)
      go_wp2
      go_roundw
      case rel => exact ⟨k + 1, by omega, by go_num, dr1 _ _⟩
      case measure => simp [intOf]; omega
    · go_wp2
      go_ret
      exact ⟨rfl, below_drewN' HB.out _⟩

set_option maxHeartbeats 1000000 in
/-- half, of a small number that is not 0. -/
theorem half_c (w : World) (x : Int) (y : Nat) (hy : x.natAbs = y) (h0 : y ≠ 0) (h1 : y < 4294967296) :
    Calls Tryz.prog 32 #[.int .i64 x] w fun e w' => ∃ r1 k1 r2 k2, e = .returned (.agg #[.bool (ng x), .slice r1 1 k1, .bool false, .slice r2 1 k2]) ∧ Below w.heap.size w w' ∧ Sl w' r1 1 k1 [y] ∧ Sl w' r2 1 k2 [2] := by
  have B1 := below_alloc w (.cells #[.bool false, .slice none 0 0, .bool false, .slice none 0 0] 26)
  have X1 := rbox_alloc w false none 0 0 false none 0 0
  obtain ⟨W, hW⟩ : ∃ W, w.alloc (.cells #[.bool false, .slice none 0 0, .bool false, .slice none 0 0] 26) = W := ⟨_, rfl⟩
  rw [hW] at B1 X1
  have O1 : Hid (∀ W', Calls Tryz.prog 33 #[.int .i64 x] W' fun e w' => ∃ r cr, e = .returned (.agg #[.bool (ng x), .slice r 1 cr]) ∧ Below W'.heap.size W' w' ∧ Sl w' r 1 cr [y] ∧ ∀ b o, r = some ⟨b, o, none⟩ → W'.heap.size ≤ b) := by
    intro W'
    refine (zrof_c W' x (by omega) (by omega)).mono ?_
    rintro e w' ⟨r, cr, rfl, Z⟩
    have hz := Z.sl
    rw [hy, digs_small h0 h1] at hz ⊢
    exact ⟨r, cr, rfl, Z.below, hz, Z.fresh⟩
  have O2 : Hid (∀ W', Calls Tryz.prog 33 #[.int .i64 2] W' fun e w' => ∃ r cr, e = .returned (.agg #[.bool false, .slice r 1 cr]) ∧ Below W'.heap.size W' w' ∧ Sl w' r 1 cr [2] ∧ ∀ b o, r = some ⟨b, o, none⟩ → W'.heap.size ≤ b) := by
    intro W'
    refine (zrof_c W' 2 (by omega) (by omega)).mono ?_
    rintro e w' ⟨r, cr, rfl, Z⟩
    have hz := Z.sl
    have d : digs (2 : Int).natAbs = [2] := digs_small (by decide) (by decide)
    rw [d] at hz ⊢
    exact ⟨r, cr, rfl, Z.below, hz, Z.fresh⟩
  obtain ⟨bx, hbx⟩ : ∃ b, ng x = b := ⟨_, rfl⟩
  rw [hbx] at O1 ⊢
  obtain ⟨g, hg⟩ : ∃ g, w.heap.size = g := ⟨_, rfl⟩
  rw [hg] at X1
  have HB := hid B1
  have HX := hid X1
  clear B1 X1 hy h0 h1 hbx
  go_enter Tryz.func32, Tryz.ntmps32
  go_wp2_with fail
  refine (O1.out _).mono ?_
  rintro e w1 ⟨r1, k1, rfl, C1, S1, F1⟩
  have hl0 := HX.out.lt
  have Sx := hid S1
  have Fx := hid F1
  have HX1 := hid (HX.out.below C1)
  have HB1 := hid (HB.out.trans (C1.mono HB.out.size))
  have hl1 := HX1.out.lt
  clear C1 S1 F1 O1
  go_wp2_with fail
  refine (O2.out _).mono ?_
  rintro e w2 ⟨r2, k2, rfl, C2, S2, F2⟩
  have Sy := hid S2
  have Sx2 := hid (Sx.out.below C2)
  have Fy := hid F2
  have HB2 := hid (HB1.out.trans (C2.mono HB1.out.size))
  have x3 := HX1.out.below C2
  have q0 := x3.at0
  have q1 := x3.at1
  have q2 := x3.at2
  have q3 := x3.at3
  have q4 := x3.frozen 0
  have q5 := x3.frozen 1
  have q6 := x3.frozen 2
  have q7 := x3.frozen 3
  clear C2 S2 F2 O2
  go_wp2
  have hc := x3.set bx r1 1 k1 false r2 1 k2
  have hc0 := hc.at0
  have hc1 := hc.at1
  have hc2 := hc.at2
  have hc3 := hc.at3
  refine bodyPost_ret (by simp [results, Tryz.results32, go_sem, hc0, hc1, hc2, hc3]; try rfl) rfl ?_
  exact ⟨r1, k1, r2, k2, rfl, below_set4 HB2.out (by omega), sl_set4 Sx2.out (fun b o e => by have := Fx.out b o e; omega), sl_set4 Sy.out (fun b o e => by have := Fy.out b o e; omega)⟩
end Go.Proofs.YtaplbadcpbollaaGreatDoor
