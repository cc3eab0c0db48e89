import Derived.Test.YtbgelajoomneiaaGreatFiC
import Derived.Test.YtbgelajoomneiaaGreatDtA
import Derived.Test.YtbgelajoomneiaaGreatGsD
import Derived.Test.YtbgelajoomneiaaGreatMkB
/-
 The norm of data of rows is the squared length of the vector.
-/
namespace Go.Proofs.YtbgelajoomneiaaGreat
open Go Go.RowKit Nt
set_option linter.unusedSimpArgs false
set_option linter.unusedVariables false
set_option maxRecDepth 20000

theorem bhL_sm (x : List Int) (L : List (List Int)) (i : Nat) : ∀ k, sumZ (bhL x L i k) = Dt.sm (fun t => x.getD (i + 1 + t) 0 * (L.getD (i + 1 + t) []).getD i 0) k
 | 0 => rfl
 | k + 1 => by
  rw [bhL, sumZ_append, bhL_sm x L i k, Dt.sm_split]
  simp only [sumZ]
  omega
/-- The squared length. -/
def lnQ (Bm : List (List Int)) (x : List Int) (n : Nat) : Int := Dt.qd (gr Bm) (fun i => x.getD i 0) n 0
theorem nm_len {Bm : List (List Int)} {x : List Int} {n : Nat} (h : OfOk Bm n) : nmP (gwD Bm n) x (gwL Bm n) n n = lnQ Bm x n * (nmQ (gwD Bm n) n : Int) := by
 have g := gw_good h
 have hl1 := (gw_len Bm n).1
 have hL := gw_lead (fun k hk => h.ne k hk)
 have hi := (gw_is hL).1
 have hd : ∀ k, k ≤ n → (dN (gwD Bm n) k : Int) = Dt.det k (gr Bm) := fun k hk => by rw [← (dN_eq g (i := k) (by omega)).1]; exact hi.d k hk
 have hs : ∀ k, k < n → Dt.sd (gr Bm) (fun i => x.getD i 0) n k = nmS (gwD Bm n) x (gwL Bm n) n k := fun k hk => by
  rw [Dt.sd_from (fun m hm => hL m (by omega)) hk]
  unfold nmS nmT
  rw [bhL_sm, ← hi.d (k + 1) (by omega)]
  congr 1
  refine Dt.sm_congr (fun t ht => ?_)
  rw [hi.l (k + 1 + t) (by omega) k (by omega)]
 refine Dt.norm_len (gr_sym Bm) (x := fun i => x.getD i 0) hL (P := nmP (gwD Bm n) x (gwL Bm n) n) (Q := fun k => (nmQ (gwD Bm n) k : Int)) rfl rfl (fun k hk => ?_) (fun k hk => ?_)
 ·rw [hs k hk, ← hd k (by omega), ← hd (k + 1) (by omega), ← Int.natCast_mul]
  rfl
 ·rw [← hd k (by omega), ← hd (k + 1) (by omega), ← Int.natCast_mul, ← Int.natCast_mul]
  rfl
theorem nm_cast {Bm : List (List Int)} {x : List Int} {n : Nat} (h : OfOk Bm n) : QQ (nmP (gwD Bm n) x (gwL Bm n) n n) (nmQ (gwD Bm n) n) = RN (lnQ Bm x n) 1 := by
 rw [qq_1]
 refine qq_eq (nmQ_ne (gw_good h) n (by rw [(gw_len Bm n).2]; exact Nat.le_refl _)) (by decide) ?_
 rw [nm_len h]
 simp
end Go.Proofs.YtbgelajoomneiaaGreat

/-
 A sum of rows by a list of numbers, and its squared length.
-/
namespace Go.Proofs.YtbgelajoomneiaaGreat
open Go Go.RowKit Nt
set_option linter.unusedSimpArgs false
set_option linter.unusedVariables false
set_option maxRecDepth 20000

end Go.Proofs.YtbgelajoomneiaaGreat
