/-
  The document's Gcd: Euclid's steps.
-/
import Derived.Test.YtblmlhhicpomkaaSetP
import Derived.Deep.LoopGhost
namespace Go.Proofs.Ytblmlhhicpomkaa
open Go.RowKit Nt
set_option linter.unusedSimpArgs false
set_option linter.unusedVariables false

set_option maxHeartbeats 2000000 in
theorem rgcd_c (w : World) (p q : Option Addr) (n c m d : Nat) (xs ys : List Nat) (h : Sl w p n c xs) (h' : Sl w q m d ys) (hs : n + 1 ≤ 35184372088831) (hs' : m + 1 ≤ 35184372088831) :
    Calls Try.prog 13 #[.slice p n c, .slice q m d] w fun e w' => ∃ r cr, e = .returned (.slice r (digs (Nat.gcd (val xs) (val ys))).length cr) ∧ Ans w w' r cr (Nat.gcd (val xs) (val ys)) := by
  have HY := hid h'
  have N1 := rnorm_c w p n c xs h (by omega)
  have N2 : Hid (∀ W', Below w.heap.size w W' → _) := fun W' hb => rnorm_c W' q m d ys (h'.below hb) (by omega)
  have DX := hid h.dl
  have DY := hid h'.dl
  obtain ⟨X, hX⟩ : ∃ X, val xs = X := ⟨_, rfl⟩
  obtain ⟨Y, hY⟩ : ∃ Y, val ys = Y := ⟨_, rfl⟩
  rw [hX] at N1 DX
  rw [hY] at N2 DY
  rw [hX, hY]
  have HN1 := hid N1
  obtain ⟨G, hG⟩ : ∃ G, Nat.gcd X Y = G := ⟨_, rfl⟩
  rw [hG]
  have HG := hid hG
  clear h h' hX hY hG N1 HY
  go_enter Try.func13, Try.ntmps13
  go_wp2_with fail
  refine HN1.out.mono ?_
  rintro e w1 ⟨r1, c1, rfl, A1⟩
  have HA1 := hid A1
  clear A1 HN1
  go_wp2_with fail
  refine (N2.out w1 HA1.out.below).mono ?_
  rintro e w2 ⟨r2, c2, rfl, A2⟩
  have HA2 : Hid (Ans w w2 r2 c2 Y) := A2.since HA1.out.below
  have HA3 : Hid (Sl w2 r1 (digs X).length c1 (digs X)) := HA1.out.sl.below A2.below
  have HF1 := hid HA1.out.fresh
  clear A2 N2 HA1
  go_wp2
  go_loopg [5, 6] Y (fun k xv yv wr => ∃ (X' Y' : Nat) (px py : Option Addr) (cx cy : Nat), Y' ≤ k ∧ xv = .slice px (digs X').length cx ∧ yv = .slice py (digs Y').length cy ∧ Hid (Below w.heap.size w wr ∧ Sl wr px (digs X').length cx (digs X') ∧ Sl wr py (digs Y').length cy (digs Y') ∧ (∀ b o, px = some ⟨b, o, none⟩ → w.heap.size ≤ b) ∧ (∀ b o, py = some ⟨b, o, none⟩ → w.heap.size ≤ b) ∧ Nat.gcd X' Y' = G ∧ (digs X').length + 1 ≤ 35184372088831 ∧ (digs Y').length + 1 ≤ 35184372088831))
  case atStart => exact ⟨X, Y, r1, r2, c1, c2, Nat.le_refl _, rfl, rfl, HA2.out.below, HA3.out, HA2.out.sl, HF1.out, HA2.out.fresh, HG.out, by have := DX.out; omega, by have := DY.out; omega⟩
  case round =>
    obtain ⟨X', Y', px, py, cx, cy, hk, rfl, rfl, HR⟩ := hrel
    by_cases h0 : Y' = 0
    · subst h0
      rw [show (digs 0).length = 0 from rfl]
      obtain ⟨b1, s1, _, f1, _, g1, _, _⟩ := HR.out
      rw [Nat.gcd_zero_right] at g1
      subst g1
      have HA : Hid (Ans w wr px cx X') := ⟨b1, s1, f1⟩
      clear b1 s1 f1 HR
      go_wp2
      go_ret
      exact ⟨px, cx, rfl, HA.out⟩
    · have hL := digs_length_zero Y'
      have DVc := rdiv_c wr px py (digs X').length cx (digs Y').length cy (digs X') (digs Y') HR.out.2.1 HR.out.2.2.1 (by rw [val_digs]; exact h0) HR.out.2.2.2.2.2.2.1 HR.out.2.2.2.2.2.2.2
      rw [val_digs, val_digs] at DVc
      have HDV := hid DVc
      have hmod := Nat.mod_lt X' (Nat.pos_of_ne_zero h0)
      have hlm : (digs (X' % Y')).length ≤ (digs Y').length := digs_length_mono (Nat.le_of_lt hmod)
      obtain ⟨Lx, hLx⟩ : ∃ L, (digs X').length = L := ⟨_, rfl⟩
      obtain ⟨Ly, hLy⟩ : ∃ L, (digs Y').length = L := ⟨_, rfl⟩
      rw [hLx, hLy] at HDV
      rw [hLy] at hL hlm
      have hL0 : 0 < Ly := Nat.pos_of_ne_zero (fun e => h0 (hL.1 e))
      rw [hLx, hLy]
      have HLX := hid hLx
      have HLY := hid hLy
      have HM := hid hmod
      have HLM := hid hlm
      clear DVc hL hmod hlm hLx hLy
      go_wp2_with (go_at_call 39; refine HDV.out.mono ?_; rintro e w1 ⟨rq, cq, rs, cs, rfl, A1, A2⟩; have HA := hid A2; clear A1 A2)
      go_roundg (X' % Y')
      case measure => have := HM.out; omega
      case rel =>
        obtain ⟨b1, s1, s2, f1, f2, g1, l1, l2⟩ := HR.out
        refine ⟨Y', X' % Y', py, rs, cy, cs, Nat.le_refl _, by rw [HLY.out], rfl, ?_⟩
        refine ⟨b1.trans (HA.out.below.mono b1.size), s2.below HA.out.below, HA.out.sl, f2, fun b o e => Nat.le_trans b1.size (HA.out.fresh b o e), ?_, l2, ?_⟩
        · rw [← g1, Nat.gcd_comm X' Y', Nat.gcd_rec Y' X', Nat.gcd_comm]
        · have := HLM.out
          have e := HLY.out
          omega
end Go.Proofs.Ytblmlhhicpomkaa
