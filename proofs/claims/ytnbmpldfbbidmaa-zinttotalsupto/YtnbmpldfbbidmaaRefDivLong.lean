/-
  The document's Div by two limbs and more.
-/
import Derived.Test.YtnbmpldfbbidmaaRefDiv
import Derived.Test.YtnbmpldfbbidmaaCalc
namespace Go.Proofs.Ytnbmpldfbbidmaa
open Go.RowKit Nt
set_option linter.unusedSimpArgs false
set_option linter.unusedVariables false

/-- What holds ahead of each limb of the quotient: k limbs are left. -/
structure Rd (w wr : World) (g : Nat) (pu pv pr pd : Option Addr) (cu cv cr cd lu L U V D k R : Nat) (Q : List Nat) : Prop where
  bel : Below w.heap.size w wr
  bq : Blk wr g (List.replicate k 0 ++ Q)
  su : Sl wr pu lu cu (digs U)
  sv : Sl wr pv L cv (digs V)
  sd : Sl wr pd L cd (digs D)
  sr : Sl wr pr (digs R).length cr (digs R)
  oq : Ok Q
  lq : k + Q.length = lu
  less : R < V
  same : U / 4294967296 ^ k = val Q * V + R

/-- What holds while a guess is corrected. -/
structure Rg (w wr : World) (g : Nat) (pu pv px pp pd : Option Addr) (cu cv cx cp cd lu L U V D k X gs : Nat) (Q : List Nat) : Prop where
  bel : Below w.heap.size w wr
  bq : Blk wr g (List.replicate k 0 ++ Q)
  su : Sl wr pu lu cu (digs U)
  sv : Sl wr pv L cv (digs V)
  sd : Sl wr pd L cd (digs D)
  sx : Sl wr px (digs X).length cx (digs X)
  sp : Sl wr pp (digs (V * gs)).length cp (digs (V * gs))
  fx : ∀ b o, px = some ⟨b, o, none⟩ → g < b
  fp : ∀ b o, pp = some ⟨b, o, none⟩ → g < b
  ge : X / V ≤ gs

theorem rd_shift {D L bl s : Nat} (hL : (digs D).length = L) (hL0 : 0 < L) (hbl : Go.bitLen D = bl) (hs : 32 * L = s + bl) : s < 32 ∧ (digs (D * 2 ^ s)).length = L ∧ 2147483648 ≤ (digs (D * 2 ^ s)).getD (L - 1) 0 ∧ D * 2 ^ s < 4294967296 ^ L := by
  have htop : (digs D).getD (L - 1) 0 ≠ 0 := by
    rcases top_digs D with h0 | h0
    · rw [h0] at hL
      simp at hL
      omega
    · rw [hL] at h0
      exact h0
  obtain ⟨t, ht⟩ : ∃ t, (digs D).getD (L - 1) 0 = t := ⟨_, rfl⟩
  rw [ht] at htop
  have htb : t < 4294967296 := by rw [← ht]; exact (ok_digs D).getD _
  have e := bl_top (ok_digs D) (k := L - 1) (by rw [hL]; omega) (fun j h1 h2 => by rw [hL] at h2; omega) ht htop
  rw [val_digs, hbl] at e
  have h32 := bl_le32 htb
  have h1 : Go.bitLen t ≠ 0 := by
    intro e0
    have := (bitLen_spec t).1
    rw [e0] at this
    simp at this
    exact htop this
  have hst : s + Go.bitLen t = 32 := by omega
  have NT := norm_top (ok_digs D) hL hL0 ht htop hst
  rw [val_digs] at NT
  have TH := top_half hL0 NT.1 NT.2
  exact ⟨by omega, TH.1, TH.2, NT.2⟩

end Go.Proofs.Ytnbmpldfbbidmaa
