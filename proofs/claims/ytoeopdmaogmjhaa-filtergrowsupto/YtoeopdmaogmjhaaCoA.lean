import Derived.Test.YtoeopdmaogmjhaaMkB
import Derived.Test.YtoeopdmaogmjhaaDtA
import Derived.Test.YtoeopdmaogmjhaaMkA
import Derived.Test.YtoeopdmaogmjhaaTrV
import Derived.Test.YtoeopdmaogmjhaaMkD
/-
 One row more beside a basis: its data, how long they are, by how much of each row one comes to it.
-/
namespace Go.Proofs.Ytoeopdmaogmjhaa
open Go Go.RowKit Nt
set_option linter.unusedSimpArgs false
set_option linter.unusedVariables false
set_option maxRecDepth 20000

section
variable {G : Nat → Nat → Int} {n t E F : Nat}
end

/-- The basis and the row behind it. -/
abbrev bxT (Bm : List (List Int)) (T : List Int) : List (List Int) := Bm ++ [T]
theorem bx_lo {Bm : List (List Int)} {T : List Int} {j : Nat} (hj : j < Bm.length) : (bxT Bm T).getD j [] = Bm.getD j [] := by rw [getD_snoc, if_pos hj]
theorem grx_lo {Bm : List (List Int)} {T : List Int} {r c : Nat} (hr : r < Bm.length) (hc : c < Bm.length) : gr (bxT Bm T) r c = gr Bm r c := by unfold gr; rw [bx_lo hr, bx_lo hc]
theorem box {Bm : List (List Int)} {T : List Int} {k i j : Nat} (hk : k < Bm.length) (hi : i < Bm.length) (hj : j < Bm.length) : Dt.bo (gr (bxT Bm T)) k i j = Dt.bo (gr Bm) k i j := Dt.det_congr (fun r c hr hc => grx_lo (by split <;> omega) (by split <;> omega))
/-! Rationals over one denominator. -/
/-- The least number that the denominators of the first k divide. -/
def cmN (ts : List (Int × Int)) : Nat → Nat
 | 0 => 1
 | k + 1 => cmN ts k * ((ts.getD k (0, 0)).2.toNat / Nat.gcd (cmN ts k) (ts.getD k (0, 0)).2.toNat)
/-- All denominators are above 0. -/
def DenOk (ts : List (Int × Int)) : Prop := ∀ k, k < ts.length → 0 < (ts.getD k (0, 0)).2
theorem gcd_dv (a b : Nat) : Nat.gcd a b * (b / Nat.gcd a b) = b := Nat.mul_div_cancel' (Nat.gcd_dvd_right a b)
theorem cm_ne {ts : List (Int × Int)} (h : DenOk ts) : ∀ k, k ≤ ts.length → cmN ts k ≠ 0
 | 0, _ => Nat.one_ne_zero
 | k + 1, hk => by
  have h1 := cm_ne h k (by omega)
  have h2 := h k (by omega)
  have h3 := gcd_dv (cmN ts k) (ts.getD k (0, 0)).2.toNat
  refine Nat.mul_ne_zero h1 (fun e => ?_)
  rw [e, Nat.mul_zero] at h3
  omega
theorem cm_dvd {ts : List (Int × Int)} : ∀ k j, j < k → k ≤ ts.length → (ts.getD j (0, 0)).2.toNat ∣ cmN ts k
  | k + 1, j, hj, hk => by
    rcases Nat.lt_or_ge j k with h1 | h1
    · exact Nat.dvd_trans (cm_dvd k j h1 (by omega)) (Nat.dvd_mul_right _ _)
    · have e : j = k := by omega
      subst e
      rw [cmN]
      generalize (ts.getD j (0, 0)).2.toNat = d
      obtain ⟨q, hq⟩ := Nat.gcd_dvd_left (cmN ts j) d
      have h3 := gcd_dv (cmN ts j) d
      refine ⟨q, ?_⟩
      calc cmN ts j * (d / Nat.gcd (cmN ts j) d) = (Nat.gcd (cmN ts j) d * (d / Nat.gcd (cmN ts j) d)) * q := by
            conv => lhs; rw [hq]
            rw [Nat.mul_assoc, Nat.mul_assoc, Nat.mul_comm q]
            congr 3 <;> rw [← hq]
        _ = d * q := by rw [h3]
/-- The limbs of the first k denominators together. -/
def dsum (ts : List (Int × Int)) : Nat → Nat
 | 0 => 1
 | k + 1 => dsum ts k + (digs (ts.getD k (0, 0)).2.natAbs).length
theorem cm_len {ts : List (Int × Int)} (h : DenOk ts) : ∀ k, k ≤ ts.length → (digs (cmN ts k)).length ≤ dsum ts k
 | 0, _ => by
  show (digs 1).length ≤ 1
  exact digs_length_le (by decide)
 | k + 1, hk => by
  have h1 := cm_len h k (by omega)
  have h2 := h k (by omega)
  rw [cmN, dsum]
  refine digs_mul_len h1 (digs_length_mono (Nat.le_trans (Nat.div_le_self _ _) (by omega)))
/-- The rationals times M. -/
def tlL (ts : List (Int × Int)) (M : Nat) : List Int := ts.map (fun t => t.1 * ((M / t.2.toNat : Nat) : Int))
theorem tl_len (ts : List (Int × Int)) (M : Nat) : (tlL ts M).length = ts.length := by simp [tlL]
end Go.Proofs.Ytoeopdmaogmjhaa

/-
 gso.solved's row on its way; greatest common divisors; whole quotients; rationals of one denominator: rules.
-/
namespace Go.Proofs.Ytoeopdmaogmjhaa
open Go Go.RowKit Nt
set_option linter.unusedSimpArgs false
set_option linter.unusedVariables false
set_option maxRecDepth 20000

theorem g_zgcd {A B : Int} {ka kb : Nat} (hk : ka ≤ 67108864) (hk' : kb ≤ 67108864) : ∀ w u v, Zv A ka u w → Zv B kb v w → Calls Try.prog 59 #[u, v] w (Gives (ZN ((Nat.gcd A.natAbs B.natAbs : Nat) : Int)) w) := by
 rintro w u v ⟨s, p, n, c, xs, rfl, h, rfl, hn⟩ ⟨t, q, m, d, ys, rfl, h', rfl, hm⟩
 rw [sg_abs, sg_abs]
 refine (zgcd_c w s t p q n c m d xs ys h h' (by omega) (by omega)).mono ?_
 rintro e w' ⟨r, cr, rfl, hb, hs, hf⟩
 refine ⟨_, rfl, hb, r, cr, ?_, ?_, hf⟩
 ·rw [Int.natAbs_natCast, show ng ((Nat.gcd (val xs) (val ys) : Nat) : Int) = false by simp [ng]]
 ·rw [Int.natAbs_natCast]; exact hs
theorem ex_nat {a b : Nat} (hb : b ≠ 0) (h : b ∣ a) : fl (a : Int) (b : Int) = ((a / b : Nat) : Int) ∧ rm (a : Int) (b : Int) = 0 := by
 obtain ⟨q, rfl⟩ := h
 rw [Nat.mul_div_cancel_left _ (by omega)]
 exact fl_even (by omega) (Int.natCast_mul b q)
section
variable {ops : Array Oper} {l : List Kd} {bx : Bxs} {sl : List (Tmp × Pr)} {i : Nat} {o : Oper} {Q : Exit → Act → World → Prop} {a0 : Act} {n : Nat} {w0 : World}
end

theorem qv_dl {n k : Nat} {ts : List (Int × Int)} {v : Value} {w : World} (h : QV n ts k v w) {i : Nat} (hi : i < ts.length) : (digs (ts.getD i (0, 0)).1.natAbs).length ≤ k ∧ (digs (ts.getD i (0, 0)).2.natAbs).length ≤ k := by
 obtain ⟨p, c, rfl, hl, hb, ha⟩ := h
 obtain ⟨b, o, u, _, _, _, x0, x1, y0, y1, _, h1, h2⟩ := ha i _ (qv_at hi)
 exact ⟨zv_dl h1, zv_dl h2⟩
theorem dsum_mono (ts : List (Int × Int)) : ∀ {a b : Nat}, a ≤ b → dsum ts a ≤ dsum ts b
 | a, 0, h => by rw [show a = 0 by omega]; exact Nat.le_refl _
 | a, b + 1, h => by
  rcases Nat.lt_or_ge a (b + 1) with h1 | h1
  ·exact Nat.le_trans (dsum_mono ts (show a ≤ b by omega)) (Nat.le_add_right _ _)
  ·rw [show a = b + 1 by omega]; exact Nat.le_refl _
theorem tl_get' {ts : List (Int × Int)} {M k : Nat} (hk : k < ts.length) : (tlL ts M)[k]? = some (((ts.getD k (0, 0)).1) * (((M / (ts.getD k (0, 0)).2.toNat : Nat) : Int))) := by
 rw [tlL, List.getElem?_map, List.getElem?_eq_getElem hk, List.getD_eq_getElem?_getD, List.getElem?_eq_getElem hk]
 rfl
theorem nabs_pos {a : Int} (h : 0 < a) : a.natAbs = a.toNat := by omega
theorem mv_mono {n k k' : Nat} {A : List (List Int)} (hk : k ≤ k') : ∀ v w, Mv n A k v w → Mv n A k' v w := ar_imp (by simp) (fun i φ φ' h1 h2 v w h => by
 obtain ⟨a, ha, rfl⟩ := map_get h1
 obtain ⟨b, hb, rfl⟩ := map_get h2
 obtain rfl : a = b := Option.some.inj (ha.symm.trans hb)
 exact ar_imp (by simp) (fun i φ φ' h1 h2 v w h => by
  obtain ⟨a', ha', rfl⟩ := map_get h1
  obtain ⟨b', hb', rfl⟩ := map_get h2
  obtain rfl : a' = b' := Option.some.inj (ha'.symm.trans hb')
  exact zv_mono hk v w h) v w h)
end Go.Proofs.Ytoeopdmaogmjhaa

/-
 The document's coordinates as quotients of determinants: what each step comes to.
-/
namespace Go.Proofs.Ytoeopdmaogmjhaa
open Go Go.RowKit Nt
set_option linter.unusedSimpArgs false
set_option linter.unusedVariables false
set_option maxRecDepth 20000

end Go.Proofs.Ytoeopdmaogmjhaa
