/-
  The law's eq, of numbers that differ.
-/
import Derived.Test.YtoplejeljmpcpaaDoorZReadMath
import Derived.Test.YtoplejeljmpcpaaDoorSetZ
namespace Go.Proofs.YtoplejeljmpcpaaDoor
open Go Go.RowKit Nt
set_option linter.unusedSimpArgs false
set_option linter.unusedVariables false
set_option maxRecDepth 20000

theorem first_diff {xs ys : List Nat} (hl : xs.length = ys.length) (h : xs ≠ ys) : ∃ k, k < xs.length ∧ xs.getD k 0 ≠ ys.getD k 0 ∧ ∀ j, j < k → xs.getD j 0 = ys.getD j 0 := by
  rcases first_no (fun j => decide (xs.getD j 0 = ys.getD j 0)) xs.length with h1 | ⟨k, h1, h2, h3⟩
  · refine absurd (List.ext_getElem hl (fun i h2 h3 => ?_)) h
    have := of_decide_eq_true (h1 i h2)
    rwa [List.getD_eq_getElem?_getD, List.getD_eq_getElem?_getD, List.getElem?_eq_getElem h2, List.getElem?_eq_getElem h3] at this
  · exact ⟨k, h1, of_decide_eq_false h2, fun j hj => of_decide_eq_true (h3 j hj)⟩
set_option maxHeartbeats 2000000 in
theorem eq_nl (w : World) (neg : Bool) (p q : Option Addr) (n c m d : Nat) (xs ys : List Nat) (h : Sl w p n c xs) (h' : Sl w q m d ys) (hne : ¬ n = m) :
    Calls Tryd.prog 10 #[.agg #[.bool neg, .slice p n c], .agg #[.bool neg, .slice q m d]] w fun e w' => e = .returned (.bool false) ∧ Below w.heap.size w w' := by
  have hc := h.cap
  have hm := h.max
  have hc' := h'.cap
  have hm' := h'.max
  unfold maxLen at hm hm'
  have B1 := below_alloc w (.cells #[.bool neg, .slice p n c] 24)
  have B2 := below_alloc (w.alloc (.cells #[.bool neg, .slice p n c] 24)) (.cells #[.bool neg, .slice q m d] 24)
  have X1 := (box_alloc w neg p n c).below B2
  have X2 := box_alloc (w.alloc (.cells #[.bool neg, .slice p n c] 24)) neg q m d
  rw [show (w.alloc (.cells #[.bool neg, .slice p n c] 24)).heap.size = w.heap.size + 1 from by simp] at X2
  have HB := hid (B1.trans (B2.mono B1.size))
  obtain ⟨W, hW⟩ : ∃ W, (w.alloc (.cells #[.bool neg, .slice p n c] 24)).alloc (.cells #[.bool neg, .slice q m d] 24) = W := ⟨_, rfl⟩
  rw [hW] at X1 X2 HB
  have X10 := X1.at1
  have X20 := X2.at1
  have X11 := X1.at0
  have X21 := X2.at0
  obtain ⟨g, hg⟩ : ∃ g, w.heap.size = g := ⟨_, rfl⟩
  rw [hg] at X10 X20 X11 X21
  clear h h' B1 B2 X1 X2
  have hb : ((n : Int) == (m : Int)) = false := beq_eq_false_iff_ne.2 (by omega)
  go_enter Tryd.func10, Tryd.ntmps10
  go_wp2
  go_ret
  exact ⟨rfl, HB.out⟩
set_option maxHeartbeats 2000000 in
theorem eq_nd (w : World) (neg : Bool) (p q : Option Addr) (n c d : Nat) (xs ys : List Nat) (h : Sl w p n c xs) (h' : Sl w q n d ys) (k0 : Nat) (hk0 : k0 < n) (hne : xs.getD k0 0 ≠ ys.getD k0 0) (hsame : ∀ j, j < k0 → xs.getD j 0 = ys.getD j 0) :
    Calls Tryd.prog 10 #[.agg #[.bool neg, .slice p n c], .agg #[.bool neg, .slice q n d]] w fun e w' => e = .returned (.bool false) ∧ Below w.heap.size w w' := by
  have hc := h.cap
  have hm := h.max
  unfold maxLen at hm
  have B1 := below_alloc w (.cells #[.bool neg, .slice p n c] 24)
  have B2 := below_alloc (w.alloc (.cells #[.bool neg, .slice p n c] 24)) (.cells #[.bool neg, .slice q n d] 24)
  have X1 := (box_alloc w neg p n c).below B2
  have X2 := box_alloc (w.alloc (.cells #[.bool neg, .slice p n c] 24)) neg q n d
  rw [show (w.alloc (.cells #[.bool neg, .slice p n c] 24)).heap.size = w.heap.size + 1 from by simp] at X2
  have HX := hid ((h.below B1).below B2)
  have HY := hid ((h'.below B1).below B2)
  have HB := hid (B1.trans (B2.mono B1.size))
  obtain ⟨W, hW⟩ : ∃ W, (w.alloc (.cells #[.bool neg, .slice p n c] 24)).alloc (.cells #[.bool neg, .slice q n d] 24) = W := ⟨_, rfl⟩
  rw [hW] at X1 X2 HX HY HB
  have X10 := X1.at1
  have X20 := X2.at1
  have X11 := X1.at0
  have X21 := X2.at0
  obtain ⟨g, hg⟩ : ∃ g, w.heap.size = g := ⟨_, rfl⟩
  rw [hg] at X10 X20 X11 X21
  have HS := hid hsame
  have HN := hid hne
  clear h h' B1 B2 X1 X2 hsame hne
  go_enter Tryd.func10, Tryd.ntmps10
  go_wp2
  clear hW
  go_loopw [5] (fun i wr => ∃ k : Nat, k ≤ k0 ∧ i = .int .i64 k ∧ ∃ nq, wr = W.drewN nq) (fun i _ => k0 - (intOf i).toNat)
  case atStart => exact ⟨0, Nat.zero_le _, rfl, 0, rfl⟩
  case round =>
    obtain ⟨k, hk, rfl, nq, rfl⟩ := hrel
    obtain ⟨b, o, rfl, hcell⟩ := HX.out.lie k (by rw [HX.out.len]; omega)
    obtain ⟨b', o', rfl, hcell'⟩ := HY.out.lie k (by rw [HY.out.len]; omega)
    by_cases hlt : k < k0
    · rw [← HS.out k hlt] at hcell'
      obtain ⟨x, hx⟩ : ∃ x, xs.getD k 0 = x := ⟨_, rfl⟩
      rw [hx] at hcell hcell'
      clear hx
      go_wp2_with fail
      go_quiet (fail)
      go_wp2
      go_roundw
      case rel => exact ⟨k + 1, by omega, by go_num, dr1 _ _⟩
      case measure => simp [intOf]; omega
    · obtain ⟨x, hx⟩ : ∃ x, xs.getD k 0 = x := ⟨_, rfl⟩
      obtain ⟨y, hy⟩ : ∃ y, ys.getD k 0 = y := ⟨_, rfl⟩
      have hxy : ((x : Int) == (y : Int)) = false := beq_eq_false_iff_ne.2 (by
        have := HN.out
        rw [show k0 = k by omega, hx, hy] at this
        omega)
      rw [hx] at hcell
      rw [hy] at hcell'
      clear hx hy
      go_wp2_with fail
      go_quiet (fail)
      go_wp2
      go_ret
      exact ⟨rfl, below_drewN' (below_drewN' HB.out _) _⟩
theorem g_neq {y z : Int} {lo lo' : Nat} (hy : 0 ≤ y) (hz : 0 ≤ z) (hne : y ≠ z) : ∀ w u v, ZN y lo u w → ZN z lo' v w → Calls Tryd.prog 10 #[u, v] w (Gives (IS (.bool false)) w) := by
  rintro w u v ⟨r, c, rfl, h, _⟩ ⟨r', c', rfl, h', _⟩
  have e1 : ng y = false := by unfold ng; simp; omega
  have e2 : ng z = false := by unfold ng; simp; omega
  rw [e1, e2]
  have hd : digs y.natAbs ≠ digs z.natAbs := fun e => by
    have := congrArg val e
    rw [val_digs, val_digs] at this
    omega
  have fin : ∀ {e : Ending} {w' : World}, e = .returned (.bool false) ∧ Below w.heap.size w w' → Gives (IS (.bool false)) w e w' := by
    rintro e w' ⟨rfl, hb⟩
    exact ⟨_, rfl, hb, rfl⟩
  by_cases hl : (digs y.natAbs).length = (digs z.natAbs).length
  · obtain ⟨k, h1, h2, h3⟩ := first_diff hl hd
    rw [← hl] at h' ⊢
    exact (eq_nd w false r r' _ c c' _ _ h h' k h1 h2 h3).mono (fun e w' h => fin h)
  · exact (eq_nl w false r r' _ c _ c' _ _ h h' hl).mono (fun e w' h => fin h)
end Go.Proofs.YtoplejeljmpcpaaDoor
