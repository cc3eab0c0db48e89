/-
  RatOrders' walk: it returns true and writes nothing that was there.
-/
import Derived.Test.YtdadmchlehfiiaaGreatDoorSetH
import Derived.Test.YtdadmchlehfiiaaGreatDoorSetG
namespace Go.Proofs.YtdadmchlehfiiaaGreatDoor
open Go.RowKit Nt
set_option linter.unusedSimpArgs false
set_option linter.unusedVariables false
set_option maxRecDepth 20000

/-- Into a call of one rational that hands none back. -/
theorem renter1b (w : World) (s : Bool) (p : Option Addr) (n c : Nat) (t : Bool) (q : Option Addr) (m d : Nat) :
    ∃ W g, w.heap.size = g ∧ w.alloc (.cells #[.bool s, .slice p n c, .bool t, .slice q m d] 26) = W ∧
      W.cell? ⟨g, 0, none⟩ = some (.bool s) ∧ W.cell? ⟨g, 1, none⟩ = some (.slice p n c) ∧ W.cell? ⟨g, 2, none⟩ = some (.bool t) ∧ W.cell? ⟨g, 3, none⟩ = some (.slice q m d) ∧ Hid (Below w.heap.size w W) := by
  have X1 := rbox_alloc w s p n c t q m d
  exact ⟨_, _, rfl, rfl, X1.at0, X1.at1, X1.at2, X1.at3, below_alloc _ _⟩

theorem valid_c (w : World) (s : Bool) (p : Option Addr) (n c : Nat) (t : Bool) (q : Option Addr) (m d : Nat) (ys : List Nat) (h : Sl w q m d ys) (hs : m ≤ 35184372088832) (k : Bool) (hk : k = decide (0 < (sg t (val ys)).sign)) :
    Calls Tryz.prog 31 #[.agg #[.bool s, .slice p n c, .bool t, .slice q m d]] w fun e w' => e = .returned (.bool k) ∧ Below w.heap.size w w' := by
  obtain ⟨W, g, hg, hW, a0, a1, a2, a3, HB⟩ := renter1b w s p n c t q m d
  have SG := hid (zrsign_c W t q m d ys (h.below HB.out) hs)
  subst hk
  generalize (sg t (val ys)).sign = z at *
  clear h
  go_enter Tryz.func31, Tryz.ntmps31
  go_wp2_with fail
  refine SG.out.mono ?_
  rintro e w1 ⟨rfl, hB⟩
  have HF := hid (HB.out.trans (hB.mono HB.out.size))
  clear hB
  go_wp2
  go_ret
  exact ⟨rfl, HF.out⟩

theorem ok_c (w : World) (s : Bool) (p : Option Addr) (n c : Nat) (t : Bool) (q : Option Addr) (m d : Nat) (ys : List Nat) (h : Sl w q m d ys) (hs : m ≤ 35184372088832) (k : Bool) (hk : k = decide (0 < (sg t (val ys)).sign)) :
    Calls Tryz.prog 16 #[.agg #[.bool s, .slice p n c, .bool t, .slice q m d]] w fun e w' => e = .returned (.bool k) ∧ Below w.heap.size w w' := by
  obtain ⟨W, g, hg, hW, a0, a1, a2, a3, HB⟩ := renter1b w s p n c t q m d
  have SG := hid (valid_c W s p n c t q m d ys (h.below HB.out) hs k hk)
  clear h hk
  go_enter Tryz.func16, Tryz.ntmps16
  go_wp2_with fail
  refine SG.out.mono ?_
  rintro e w1 ⟨rfl, hB⟩
  have HF := hid (HB.out.trans (hB.mono HB.out.size))
  clear hB
  go_wp2
  go_ret
  exact ⟨rfl, HF.out⟩

set_option maxHeartbeats 1000000 in
theorem both_c (w : World) (s1 : Bool) (p1 : Option Addr) (n1 c1 : Nat) (t1 : Bool) (q1 : Option Addr) (m1 d1 : Nat) (s2 : Bool) (p2 : Option Addr) (n2 c2 : Nat) (t2 : Bool) (q2 : Option Addr) (m2 d2 : Nat) (ys1 ys2 : List Nat)
    (h1 : Sl w q1 m1 d1 ys1) (h2 : Sl w q2 m2 d2 ys2) (hs : m1 ≤ 35184372088832) (hs' : m2 ≤ 35184372088832) (k1 k2 : Bool) (hk1 : k1 = decide (0 < (sg t1 (val ys1)).sign)) (hk2 : k2 = decide (0 < (sg t2 (val ys2)).sign)) :
    Calls Tryz.prog 6 #[.agg #[.bool s1, .slice p1 n1 c1, .bool t1, .slice q1 m1 d1], .agg #[.bool s2, .slice p2 n2 c2, .bool t2, .slice q2 m2 d2]] w fun e w' => e = .returned (.bool (k1 && k2)) ∧ Below w.heap.size w w' := by
  obtain ⟨W, g, hg, hW, a0, a1, a2, a3, e0, e1, e2, e3, HB⟩ := renter2b w s1 p1 n1 c1 t1 q1 m1 d1 s2 p2 n2 c2 t2 q2 m2 d2
  have O1 := hid (ok_c W s1 p1 n1 c1 t1 q1 m1 d1 ys1 (h1.below HB.out) hs k1 hk1)
  have O2 : Hid (∀ W', Below w.heap.size w W' → _) := fun W' hb => ok_c W' s2 p2 n2 c2 t2 q2 m2 d2 ys2 (h2.below hb) hs' k2 hk2
  clear h1 h2 hk1 hk2
  cases k1 with
  | false =>
    go_enter Tryz.func6, Tryz.ntmps6
    go_wp2_with fail
    refine O1.out.mono ?_
    rintro e w1 ⟨rfl, hB⟩
    have HF := hid (HB.out.trans (hB.mono HB.out.size))
    clear hB
    go_wp2
    go_ret
    exact ⟨rfl, HF.out⟩
  | true =>
    go_enter Tryz.func6, Tryz.ntmps6
    go_wp2_with fail
    refine O1.out.mono ?_
    rintro e w1 ⟨rfl, hB⟩
    have HF := hid (HB.out.trans (hB.mono HB.out.size))
    replace e0 := cell_below e0 hB
    replace e1 := cell_below e1 hB
    replace e2 := cell_below e2 hB
    replace e3 := cell_below e3 hB
    clear hB
    go_wp2_with fail
    refine (O2.out w1 HF.out).mono ?_
    rintro e w2 ⟨rfl, hB⟩
    have HG := hid (HF.out.trans (hB.mono HF.out.size))
    clear hB
    go_wp2
    go_ret
    exact ⟨by simp, HG.out⟩

theorem sign_up {t : Bool} {y : Nat} (h : 0 < (sg t y).sign) : t = false ∧ y ≠ 0 := by
  cases t with
  | false => exact ⟨rfl, fun e => by subst e; simp [sg] at h⟩
  | true =>
    exfalso
    by_cases h0 : y = 0
    · subst h0; simp [sg] at h
    · rw [sign_neg h0] at h; omega

end Go.Proofs.YtdadmchlehfiiaaGreatDoor
