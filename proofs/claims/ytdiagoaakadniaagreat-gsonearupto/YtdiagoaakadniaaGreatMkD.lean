import Derived.Test.YtdiagoaakadniaaGreatFiC
import Derived.Test.YtdiagoaakadniaaGreatDtA
import Derived.Test.YtdiagoaakadniaaGreatGsD
import Derived.Test.YtdiagoaakadniaaGreatMkB
namespace Go.Proofs.YtdiagoaakadniaaGreat
open Go Go.RowKit Nt
set_option linter.unusedSimpArgs false
set_option linter.unusedVariables false
set_option maxRecDepth 20000
set_option maxHeartbeats 16000000
theorem bhL_sm (x : List Int) (L : List (List Int)) (i : Nat) : ∀ k, sumZ (bhL x L i k) = Dt.sm (fun t => x.getD (i + 1 + t) 0 * (L.getD (i + 1 + t) []).getD i 0) k
 | 0 => rfl
 | k + 1 => by
  rw [bhL, yjo, bhL_sm x L i k, Dt.sm_split]
  simp only [sumZ]
  omega
theorem dl_getL {D : List Int} {K : Nat} (h : Dl D K) (k : Nat) : (digs (D.getD k 0).natAbs).length ≤ K := by
 rw [List.getD_eq_getElem?_getD]
 cases e : D[k]? with
 | none => simp [show (0 : Int).natAbs = 0 from rfl, yc9]
 | some z => exact h k z e
theorem wtD_leL {D : List Int} {K : Nat} (h : Dl D K) : ∀ k, wtD D k ≤ k * K
 | 0 => Nat.zero_le _
 | k + 1 => by
  have ih := wtD_leL h k
  have e := dl_getL h k
  have e1 : (k + 1) * K = k * K + K := Nat.succ_mul _ _
  simp only [wtD]
  omega
theorem gl_ok {Bm : List (List Int)} {n : Nat} (h : OfOk Bm n) : Dl (gwD Bm n) 196 ∧ Mdl (gwL Bm n) 196 ∧ wtD (gwD Bm n) (n + 1) ≤ 1048576 := by
 have h12 := h.top
 have ok : WdOk Bm n 196 := wd_all h.top (Nat.le_refl _) h.bits (yd9 h.nar) (fun k hk => h.ne k (by omega))
 have dD := gwD_dl (by omega) ok n (Nat.le_refl _)
 have dL := gwL_dl ok n (Nat.le_refl _)
 refine ⟨dD, dL, ?_⟩
 have := wtD_leL dD (n + 1)
 have : (n + 1) * 196 ≤ 2548 := by omega
 omega
theorem ce_impL {sz : Nat} {φs ψs : List Pr} {xs : List Value} {w : World} (hl : φs.length = ψs.length) (hi : ∀ (i : Nat) φ ψ, φs[i]? = some φ → ψs[i]? = some ψ → ∀ v, φ v w → ψ v w) (h : CE sz φs xs w) : CE sz ψs xs w := by
 obtain ⟨us, e, l, c, a⟩ := h
 refine ⟨us, e, l.trans hl, c, fun i u ψ hu hψ => ?_⟩
 obtain ⟨φ, hφ⟩ : ∃ φ, φs[i]? = some φ := ⟨φs[i]'(by rw [hl]; exact (List.getElem?_eq_some_iff.1 hψ).1), List.getElem?_eq_getElem _⟩
 exact hi i φ ψ hφ hψ u (a i u φ hu hφ)
end Go.Proofs.YtdiagoaakadniaaGreat
