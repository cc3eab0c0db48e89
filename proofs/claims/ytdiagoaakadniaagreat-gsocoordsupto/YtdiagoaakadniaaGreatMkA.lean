import Derived.Test.YtdiagoaakadniaaGreatGsD
import Derived.Test.YtdiagoaakadniaaGreatFiC
import Derived.Test.YtdiagoaakadniaaGreatHxA
namespace Go.Proofs.YtdiagoaakadniaaGreat
open Go Go.RowKit Nt
set_option linter.unusedSimpArgs false
set_option linter.unusedVariables false
set_option maxRecDepth 20000
set_option maxHeartbeats 16000000
theorem fr_sub {b b' x y : Int} {d0 d1 : Nat} (h0 : d0 ≠ 0) (h1 : d1 ≠ 0) (h : (d0 : Int) * b' = (d1 : Int) * b - x * y) :
  QQ (b * ((d1 * d1 * d0 : Nat) : Int) + (-(y * x * (d1 : Int))) * (d0 : Int)) (d0 * (d1 * d1 * d0)) = QQ b' d1 := by
 refine yff (Nat.mul_ne_zero h0 (Nat.mul_ne_zero (Nat.mul_ne_zero h1 h1) h0)) h1 ?_
 simp only [Int.natCast_mul]
 generalize (d0 : Int) = p at *
 generalize (d1 : Int) = q at *
 have e1 : (b * (q * q * p) + (-(y * x * q)) * p) * q = (q * b - x * y) * (q * q * p) := by grind
 rw [e1, ← h]
 grind
theorem fr_div {b : Int} {d0 d1 : Nat} (h0 : d0 ≠ 0) (h1 : d1 ≠ 0) : QQ (b * (d0 : Int)) (d0 * d1) = QQ b d1 := by
 refine yff (Nat.mul_ne_zero h0 h1) h1 ?_
 simp only [Int.natCast_mul]
 grind
theorem ykc {P : Int} {Q : Nat} (hQ : Q ≠ 0) : nR P Q * (Q : Int) = P * (dR P Q : Int) := yhp P Q
theorem q_neg {P : Int} {Q : Nat} (hQ : Q ≠ 0) : nR (-nR P Q) (dR P Q) = nR (-P) Q ∧ dR (-nR P Q) (dR P Q) = dR (-P) Q := by
 refine low_one (ye7 hQ) hQ ?_
 have := ykc (P := P) hQ
 rw [Int.neg_mul, Int.neg_mul, this]
theorem ym9 {P P' : Int} {Q Q' k k' lo lo' : Nat} (hQ : Q ≠ 0) (hQ' : Q' ≠ 0) (b1 : (digs P.natAbs).length ≤ k) (b2 : (digs Q).length ≤ k) (b3 : (digs P'.natAbs).length ≤ k') (b4 : (digs Q').length ≤ k') (hk : k ≤ 8388608) (hk' : k' ≤ 8388608) :
  ∀ w u v, QQ P Q lo u w → QQ P' Q' lo' v w → Calls Tryz.prog 9 #[u, v] w (Gives (QQ (P * (Q' : Int) + (-P') * (Q : Int)) (Q * Q')) w) := fun w u v h h' => by
 have := g_rrsub (ye7 hQ) (ye7 hQ') hk hk hk' hk' w u v (ylj b1 b2 u w h) (ylj b3 b4 v w h')
 obtain ⟨e1, e2⟩ := q_neg (P := P') hQ'
 rw [e1, e2] at this
 exact Gives.cast this (yff (Nat.mul_ne_zero (ye7 hQ) (ye7 hQ')) (Nat.mul_ne_zero hQ hQ') q_cross)
theorem q_posn {p Q : Nat} (hp : p ≠ 0) (hQ : Q ≠ 0) : ∃ N : Nat, nR (p : Int) Q = (N : Int) ∧ N ≠ 0 := by
 have h := ykc (P := (p : Int)) hQ
 have h1 := ye7 (X := (p : Int)) hQ
 have h2 : 0 < nR (p : Int) Q * (Q : Int) := by rw [h]; exact Int.mul_pos (by omega) (by omega)
 have h3 : 0 < nR (p : Int) Q := by
  rcases Int.lt_or_le 0 (nR (p : Int) Q) with h3 | h3
  ·exact h3
  ·have h4 := Int.mul_le_mul_of_nonneg_right h3 (show (0 : Int) ≤ (Q : Int) by omega)
   rw [Int.zero_mul] at h4
   omega
 exact ⟨(nR (p : Int) Q).toNat, by omega, by omega⟩
theorem q_rdiv {P : Int} {p Q Q' k k' lo lo' : Nat} (hQ : Q ≠ 0) (hQ' : Q' ≠ 0) (hp : p ≠ 0) (b1 : (digs P.natAbs).length ≤ k) (b2 : (digs Q).length ≤ k) (b3 : (digs p).length ≤ k') (b4 : (digs Q').length ≤ k') (hk : k ≤ 8388608) (hk' : k' ≤ 8388608) :
  ∀ w u v, QQ P Q lo u w → QQ (p : Int) Q' lo' v w → Calls Tryz.prog 25 #[u, v] w (Gives (QQ (P * (Q' : Int)) (Q * p)) w) := fun w u v h h' => by
 have hD := ye7 (X := P) hQ
 have hM := ye7 (X := (p : Int)) hQ'
 have r1 := ylj b1 b2 u w h
 have r2 := ylj (P := (p : Int)) (by rw [Int.natAbs_natCast]; exact b3) b4 v w h'
 obtain ⟨N, hN, hN0⟩ := q_posn hp hQ'
 have s1 := ykc (P := P) hQ
 have s2 := ykc (P := (p : Int)) hQ'
 rw [hN] at r2 s2
 have key := rdivq_w w u v (nR P Q) N (dR P Q) (dR (p : Int) Q') k k k' k' (yjl r1).hs (yjl r2).hs hD hN0 hk hk hk' hk'
 refine Gives.cast key (yff (Nat.mul_ne_zero hD hN0) (Nat.mul_ne_zero hQ hp) ?_)
 simp only [Int.natCast_mul]
 generalize (dR (p : Int) Q' : Int) = M at *
 generalize (dR P Q : Int) = D at *
 generalize nR P Q = A at *
 generalize (N : Int) = N' at *
 generalize (p : Int) = p' at *
 have : A * M * ((Q : Int) * p') = (A * (Q : Int)) * (p' * M) := by grind
 rw [this, s1, ← s2]
 grind
def dt (G : Nat → Nat → Int) (k : Nat) : Nat := (Dt.det k G).toNat
def muL (G : Nat → Nat → Int) (i : Nat) : Nat → List (Int × Nat)
 | 0 => []
 | j + 1 => muL G i j ++ [(Dt.bo G j i j, dt G (j + 1))]
def stL (G : Nat → Nat → Int) : Nat → List (Int × Nat)
 | 0 => []
 | k + 1 => stL G k ++ [((dt G (k + 1) : Int), dt G k)]
def mmL (G : Nat → Nat → Int) : Nat → List (List (Int × Nat))
 | 0 => []
 | k + 1 => mmL G k ++ [muL G k k]
theorem yha (G : Nat → Nat → Int) (i : Nat) : ∀ j, (muL G i j).length = j
 | 0 => rfl
 | j + 1 => by simp [muL, yha G i j]
theorem stL_len (G : Nat → Nat → Int) : ∀ j, (stL G j).length = j
 | 0 => rfl
 | j + 1 => by simp [stL, stL_len G j]
theorem mmL_len (G : Nat → Nat → Int) : ∀ j, (mmL G j).length = j
 | 0 => rfl
 | j + 1 => by simp [mmL, mmL_len G j]
theorem yh8 {α : Type} {l : List α} {x : α} {n : Nat} (h : l.length = n) : (l ++ [x])[n]? = some x := by
 rw [List.getElem?_append_right (by omega), h, Nat.sub_self]
 rfl
theorem yg9 {G : Nat → Nat → Int} {i : Nat} : ∀ {m k : Nat}, k < m → (muL G i m)[k]? = some (Dt.bo G k i k, dt G (k + 1))
 | m + 1, k, h => by
  have hl := yha G i m
  rw [muL]
  rcases Nat.lt_or_ge k m with h1 | h1
  ·rw [List.getElem?_append_left (by omega)]
   exact yg9 h1
  ·obtain rfl : k = m := by omega
   exact yh8 hl
theorem yhh {G : Nat → Nat → Int} : ∀ {m k : Nat}, k < m → (stL G m)[k]? = some ((dt G (k + 1) : Int), dt G k)
 | m + 1, k, h => by
  have hl := stL_len G m
  rw [stL]
  rcases Nat.lt_or_ge k m with h1 | h1
  ·rw [List.getElem?_append_left (by omega)]
   exact yhh h1
  ·obtain rfl : k = m := by omega
   exact yh8 hl
theorem ylb {G : Nat → Nat → Int} : ∀ {m k : Nat}, k < m → (mmL G m)[k]? = some (muL G k k)
 | m + 1, k, h => by
  have hl := mmL_len G m
  rw [mmL]
  rcases Nat.lt_or_ge k m with h1 | h1
  ·rw [List.getElem?_append_left (by omega)]
   exact ylb h1
  ·obtain rfl : k = m := by omega
   exact yh8 hl
def QW (P : Int) (Q k : Nat) : Pr := fun v w => ∃ (A : Int) (D : Nat), D ≠ 0 ∧ A * (Q : Int) = P * (D : Int) ∧ Rv A (D : Int) k k v w
theorem qw_qq {P : Int} {Q k lo : Nat} (hQ : Q ≠ 0) (b1 : (digs P.natAbs).length ≤ k) (b2 : (digs Q).length ≤ k) : ∀ v w, QQ P Q lo v w → QW P Q k v w := fun v w h => ⟨_, _, ye7 hQ, ykc hQ, ylj b1 b2 v w h⟩
theorem qw_raw {N D : Int} {k : Nat} (hD : 0 < D) : ∀ v w, PR (Zv N k) (Zv D k) v w → QW N D.toNat k v w := fun v w h => ⟨N, D.toNat, by omega, rfl, by rw [show ((D.toNat : Nat) : Int) = D by omega]; exact h⟩
theorem ynr {P : Int} {Q k : Nat} : Shp 4 (QW P Q k) := fun u w ⟨A, D, _, _, h⟩ => ych ybc ybc u w h
theorem qw_rmul {P P' : Int} {Q Q' k k' : Nat} (hQ : Q ≠ 0) (hQ' : Q' ≠ 0) (hk : k ≤ 8388608) (hk' : k' ≤ 8388608) :
  ∀ w u v, QW P Q k u w → QW P' Q' k' v w → Calls Tryz.prog 10 #[u, v] w (Gives (QQ (P * P') (Q * Q')) w) := fun w u v ⟨A, D, hD, e1, r1⟩ ⟨N, M, hM, e2, r2⟩ => by
 have key := rmulq_w w u v A N D M k k k' k' (yjl r1).hs (yjl r2).hs hD hM hk hk hk' hk'
 refine Gives.cast key (yff (Nat.mul_ne_zero hD hM) (Nat.mul_ne_zero hQ hQ') ?_)
 simp only [Int.natCast_mul]
 clear key r1 r2
 generalize (Q : Int) = q at *
 generalize (Q' : Int) = q' at *
 generalize (D : Int) = d at *
 generalize (M : Int) = m at *
 grind
end Go.Proofs.YtdiagoaakadniaaGreat
