/-
  The document's own answer: Div, limb by limb from the top, each limb guessed and corrected downward.
-/
import Derived.Test.YtcngoobdknifdaaDoorRefDivMath
import Derived.Test.YtcngoobdknifdaaDoorSetB
namespace Go.Proofs.YtcngoobdknifdaaDoor
open Go.RowKit Nt
set_option linter.unusedSimpArgs false
set_option linter.unusedVariables false

theorem rdiv_zero (w : World) (p q : Option Addr) (n c m d : Nat) (xs ys : List Nat) (h : Sl w p n c xs) (h' : Sl w q m d ys) (hy : val ys = 0) (hs : m ≤ 35184372088832) :
    Calls Tryd.prog 44 #[.slice p n c, .slice q m d] w fun e w' => e = .returned (.tuple #[.slice none 0 0, .slice none 0 0, .int .i64 11]) ∧ Below w.heap.size w w' := by
  have N := rnorm_c w q m d ys h' hs
  have hk : (digs (val ys)).length = 0 := by rw [hy]; rfl
  rw [hk] at N
  have HN := hid N
  clear N hk h h'
  go_enter Tryd.func44, Tryd.ntmps44
  go_wp2_with fail
  refine HN.out.mono ?_
  rintro e W1 ⟨r, cr, rfl, A⟩
  have HA := hid A
  clear A
  go_wp2_with fail
  go_ret3
  exact ⟨rfl, HA.out.below⟩

theorem rdiv_one (w : World) (p q : Option Addr) (n c m d : Nat) (xs ys : List Nat) (h : Sl w p n c xs) (h' : Sl w q m d ys) (hl : (digs (val ys)).length = 1) (hs : n ≤ 35184372088832) (hs' : m ≤ 35184372088832) :
    Calls Tryd.prog 44 #[.slice p n c, .slice q m d] w fun e w' => ∃ r cr s cs, e = .returned (.tuple #[.slice r (digs (val xs / val ys)).length cr, .slice s (digs (val xs % val ys)).length cs, .int .i64 0]) ∧ Ans w w' r cr (val xs / val ys) ∧ Ans w w' s cs (val xs % val ys) := by
  obtain ⟨o1, o2⟩ := one_limb hl
  have h0 : 0 < val ys := by
    apply Classical.byContradiction
    intro hc
    rw [show val ys = 0 from by omega] at hl
    simp [digs_zero] at hl
  have N := rnorm_c w q m d ys h' hs'
  rw [hl] at N
  have HN := hid N
  have HX := hid h
  obtain ⟨D, hD⟩ : ∃ D, val ys = D := ⟨_, rfl⟩
  rw [hD] at o1 o2 h0 HN hl ⊢
  have HO := hid o1
  have HL := hid hl
  have hrb : val xs % D < 4294967296 := Nat.lt_trans (Nat.mod_lt _ h0) o2
  obtain ⟨rr, hrr⟩ : ∃ rr, val xs % D = rr := ⟨_, rfl⟩
  obtain ⟨qq, hqq⟩ : ∃ qq, val xs / D = qq := ⟨_, rfl⟩
  have HS : Hid (∀ W : World, Below w.heap.size w W → Calls Tryd.prog 61 #[.slice p n c, .int .u64 D] W fun e w' => ∃ r cr, e = .returned (.tuple #[.slice r (digs qq).length cr, .int .u64 (rr : Nat)]) ∧ Ans W w' r cr qq) := by
    intro W hb
    have := rsmall_c W p n c D xs (HX.out.below hb) hs h0 o2
    rw [hrr, hqq] at this
    exact this
  rw [hrr] at hrb
  rw [hrr, hqq]
  clear N h h' o1 hD hl hrr hqq
  go_enter Tryd.func44, Tryd.ntmps44
  go_wp2_with fail
  refine HN.out.mono ?_
  rintro e W1 ⟨r, cr, rfl, A⟩
  have hsl := A.sl
  rw [HO.out] at hsl
  obtain ⟨b, o, rfl, hcell⟩ := hsl.lie 0 (by simp)
  have hcm := hsl.max
  have hcc := hsl.cap
  unfold maxLen at hcm
  simp only [List.length_singleton] at hcc
  rw [show ([D] : List Nat).getD 0 0 = D from rfl, Nat.add_zero] at hcell
  have HA := hid A
  clear A hsl
  go_wp2_with fail
  refine (HS.out _ HA.out.below).mono ?_
  rintro e W2 ⟨r2, c2, rfl, A2⟩
  have HA2 := hid A2
  clear A2 hcell
  obtain ⟨L, hL⟩ : ∃ L, (digs qq).length = L := ⟨_, rfl⟩
  have HLL := hid hL
  rw [hL]
  clear hL
  go_wp2_with fail
  have N2 := rnorm_c _ (some ⟨W2.heap.size, 0, none⟩) 1 1 [rr] (sl_lit W2 rr hrb rfl) (by omega)
  rw [val_one] at N2
  refine N2.mono ?_
  rintro e W3 ⟨r3, c3, rfl, A3⟩
  have HA3 := hid A3
  clear A3 N2
  obtain ⟨L3, hL3⟩ : ∃ L3, (digs rr).length = L3 := ⟨_, rfl⟩
  have HLL3 := hid hL3
  rw [hL3]
  clear hL3
  go_wp2
  go_ret3
  have b1 : Below w.heap.size w W2 := HA.out.below.trans (HA2.out.below.mono HA.out.below.size)
  have b2 : Below W2.heap.size W2 W3 := ((Below.refl W2.heap.size W2).alloc (Nat.le_refl _) _).trans (HA3.out.below.mono (by simp))
  refine ⟨r2, c2, r3, c3, by rw [HLL.out, HLL3.out]; rfl, ⟨b1.trans (b2.mono b1.size), HA2.out.sl.below b2, fun b o e => Nat.le_trans HA.out.below.size (HA2.out.fresh b o e)⟩, ⟨b1.trans (b2.mono b1.size), HA3.out.sl, fun b o e => ?_⟩⟩
  have := HA3.out.fresh b o e
  have := b1.size
  simp at *
  omega
end Go.Proofs.YtcngoobdknifdaaDoor
