import Derived.Test.YtdhjgekbocnnkaaDoorRefShift
import Derived.Test.YtdhjgekbocnnkaaDoorRefSmall
import Derived.Test.YtdhjgekbocnnkaaDoorSetB
import Derived.Test.YtdhjgekbocnnkaaDoorSetK
import Derived.Laws.AppendOwnNone
/-
  The numbers behind the document's Div.
-/
namespace Go.Proofs.YtdhjgekbocnnkaaDoor
open Go.RowKit Nt
set_option linter.unusedSimpArgs false
set_option linter.unusedVariables false
set_option maxRecDepth 20000

theorem limb_at {xs : List Nat} (ho : Ok xs) (k : Nat) : xs.getD k 0 = val xs / 4294967296 ^ k % 4294967296 := by
  rw [← val_drop_div ho]
  by_cases h : k < xs.length
  · rw [drop_cons xs k h]
    have := ho.getD k
    simp only [val]
    omega
  · rw [List.drop_of_length_le (by omega), List.getD_eq_getElem?_getD, List.getElem?_eq_none (by omega)]
    rfl

theorem top_pair {X L : Nat} (hL : 1 ≤ L) (hX : X < 4294967296 ^ (L + 1)) : (digs X).getD L 0 * 4294967296 + (digs X).getD (L - 1) 0 = X / 4294967296 ^ (L - 1) := by
  rw [limb_at (ok_digs X), limb_at (ok_digs X), val_digs]
  obtain ⟨l, rfl⟩ : ∃ l, L = l + 1 := ⟨L - 1, by omega⟩
  have e1 : X / 4294967296 ^ (l + 1) = X / 4294967296 ^ l / 4294967296 := by rw [Nat.pow_succ, Nat.div_div_eq_div_mul]
  have e2 : X / 4294967296 ^ (l + 1) < 4294967296 := by
    apply Nat.div_lt_of_lt_mul
    rw [← Nat.pow_succ]
    exact hX
  rw [Nat.mod_eq_of_lt e2, e1, Nat.add_sub_cancel]
  generalize X / 4294967296 ^ l = Y
  omega

theorem rguess {X V L : Nat} (hV : 0 < V / 4294967296 ^ (L - 1)) : X / V ≤ X / 4294967296 ^ (L - 1) / (V / 4294967296 ^ (L - 1)) := by
  have hK : 0 < 4294967296 ^ (L - 1) := Nat.pow_pos (by omega)
  refine guess_first (U := X) (V := V) (K := 4294967296 ^ (L - 1)) ?_ ?_ hK (Nat.div_mul_le_self X V) hV
  · have := Nat.div_add_mod X (4294967296 ^ (L - 1))
    have h2 := Nat.mod_lt X hK
    rw [Nat.add_mul, Nat.one_mul, Nat.mul_comm (X / 4294967296 ^ (L - 1))]
    omega
  · exact Nat.div_mul_le_self V _

theorem rdiv_less {X V u R : Nat} (hu : u < 4294967296) (hR : R < V) (hX : X = u + 4294967296 * R) : X < V * 4294967296 := by
  have : 4294967296 * (R + 1) ≤ 4294967296 * V := Nat.mul_le_mul_left _ hR
  rw [Nat.mul_add] at this
  rw [Nat.mul_comm V]
  omega

theorem rdiv_end {g X V : Nat} (hV : 0 < V) (h1 : X / V ≤ g) (h2 : V * g ≤ X) : g = X / V := by
  have : g ≤ X / V := by rw [Nat.le_div_iff_mul_le hV, Nat.mul_comm]; exact h2
  omega

theorem rdiv_down {g X V : Nat} (hV : 0 < V) (h2 : X < V * g) : X / V < g := Nat.div_lt_of_lt_mul h2

theorem rdiv_same {U V k u R X : Nat} {Q : List Nat} (hk : 0 < k) (hs : U / 4294967296 ^ k = val Q * V + R) (hu : u = U / 4294967296 ^ (k - 1) % 4294967296) (hX : X = u + 4294967296 * R) :
    U / 4294967296 ^ (k - 1) = val ((X / V) :: Q) * V + X % V := by
  obtain ⟨l, rfl⟩ : ∃ l, k = l + 1 := ⟨k - 1, by omega⟩
  rw [Nat.add_sub_cancel] at *
  rw [Nat.pow_succ, ← Nat.div_div_eq_div_mul] at hs
  generalize U / 4294967296 ^ l = Y at *
  have e1 : Y = X + 4294967296 * (val Q * V) := by omega
  have e2 := Nat.div_add_mod X V
  simp only [val]
  rw [Nat.add_mul, e1, Nat.mul_assoc]
  rw [Nat.mul_comm V] at e2
  omega

theorem rdiv_last {A D P V U Q R : Nat} (hU : U = A * P) (hV : V = D * P) (hP : 0 < P) (hs : U = Q * V + R) (hl : R < V) : Q = A / D ∧ R / P = A % D := by
  obtain ⟨q1, q2⟩ := long_end (X := R) (V := V) (Q := Q) (a := A) (b := D) (S := P) (by rw [← hU, hs, Nat.mul_comm V]; omega) hl hV hP
  exact ⟨q1, by rw [q2, Nat.mul_div_cancel _ hP]⟩

/-- A row that was grown by append out of a literal of one limb. -/
theorem own_lit (w : World) (x : Nat) {z : Int} (hz : z = x) : Own (w.alloc (.cells #[.int .u32 z] 63)) w.heap.size (.slice (some ⟨w.heap.size, 0, none⟩) 1 1) [x] := by
  subst hz
  refine ⟨rfl, Or.inr ⟨w.heap.size, 1, #[.int .u32 x], rfl, Nat.le_refl _, heap_alloc_last _ _, Nat.le_refl _, by decide, rfl, rfl⟩⟩

theorem sl_lit (w : World) (x : Nat) (hx : x < 4294967296) {z : Int} (hz : z = x) : Sl (w.alloc (.cells #[.int .u32 z] 63)) (some ⟨w.heap.size, 0, none⟩) 1 1 [x] :=
  ⟨rfl, Nat.le_refl _, by decide, (fun e => by cases e), Ok.cons hx Ok.nil, limbs_lit w x hz⟩

/-- append of a slice that may be nil. -/
theorem append_sl {ops : Array Oper} {rest : List Oper} {o : Oper} {a : Act} {Q : Exit → Act → World → Prop} (w : World) (hgd : o.guard = none) (s x : Operand)
    (ho : o.op = .call { callee := .builtin .append, args := #[s, x], argTypes := #[34, 34] })
    (base : Nat) (v : Value) (xs : List Nat) (hs : a.eval s = v) (hown : Own w base v xs)
    (p : Option Addr) (m c : Nat) (news : List Nat) (hx : a.eval x = .slice p m c) (hnews : Sl w p m c news)
    (hb : xs.length + m ≤ 35184372088832) (hbase : base ≤ w.heap.size)
    (h : ∀ v' w', Own w' base v' (xs ++ news) → Below base w w' → wpList Tryd.prog ops Q rest (a.put o.dst v') w') : wpList Tryd.prog ops Q (o :: rest) a w := by
  cases p with
  | some ad => exact append_u32 w hgd s x ho base v xs hs hown ad m c news hx hnews.len hnews.lie hb hbase h
  | none =>
    have hc0 := hnews.nil rfl
    have hcap := hnews.cap
    subst hc0
    have hm0 : m = 0 := by omega
    subst hm0
    have hn0 : news = [] := List.length_eq_zero_iff.1 hnews.len
    subst hn0
    obtain ⟨i0, hi, hz0, hz1, hz2⟩ := info_parts infoU32
    refine wpList_append_own_none hgd s x 34 ho base 63 i0 1 Tryd.underlying34 hi v xs.length (U xs) hs hown hx ?_
    refine h v w ?_ (Below.refl _ _)
    rw [List.append_nil]
    exact hown
end Go.Proofs.YtdhjgekbocnnkaaDoor

/-
  The document's own answer: Div, limb by limb from the top, each limb guessed and corrected downward.
-/
namespace Go.Proofs.YtdhjgekbocnnkaaDoor
open Go.RowKit Nt
set_option linter.unusedSimpArgs false
set_option linter.unusedVariables false
set_option maxRecDepth 20000

end Go.Proofs.YtdhjgekbocnnkaaDoor

/-
  The document's Div by two limbs and more.
-/
namespace Go.Proofs.YtdhjgekbocnnkaaDoor
open Go.RowKit Nt
set_option linter.unusedSimpArgs false
set_option linter.unusedVariables false
set_option maxRecDepth 20000

/-- What holds ahead of each limb of the quotient: k limbs are left. -/
structure Rd (w wr : World) (g : Nat) (pu pv pr pd : Option Addr) (cu cv cr cd lu L U V D k R : Nat) (Q : List Nat) : Prop where
  bel : Below w.heap.size w wr
  bq : Blk wr g (List.replicate k 0 ++ Q)
  su : Sl wr pu lu cu (digs U)
  sv : Sl wr pv L cv (digs V)
  sd : Sl wr pd L cd (digs D)
  sr : Sl wr pr (digs R).length cr (digs R)
  oq : Ok Q
  lq : k + Q.length = lu
  less : R < V
  same : U / 4294967296 ^ k = val Q * V + R

/-- What holds while a guess is corrected. -/
structure Rg (w wr : World) (g : Nat) (pu pv px pp pd : Option Addr) (cu cv cx cp cd lu L U V D k X gs : Nat) (Q : List Nat) : Prop where
  bel : Below w.heap.size w wr
  bq : Blk wr g (List.replicate k 0 ++ Q)
  su : Sl wr pu lu cu (digs U)
  sv : Sl wr pv L cv (digs V)
  sd : Sl wr pd L cd (digs D)
  sx : Sl wr px (digs X).length cx (digs X)
  sp : Sl wr pp (digs (V * gs)).length cp (digs (V * gs))
  fx : ∀ b o, px = some ⟨b, o, none⟩ → g < b
  fp : ∀ b o, pp = some ⟨b, o, none⟩ → g < b
  ge : X / V ≤ gs

theorem rd_shift {D L bl s : Nat} (hL : (digs D).length = L) (hL0 : 0 < L) (hbl : Go.bitLen D = bl) (hs : 32 * L = s + bl) : s < 32 ∧ (digs (D * 2 ^ s)).length = L ∧ 2147483648 ≤ (digs (D * 2 ^ s)).getD (L - 1) 0 ∧ D * 2 ^ s < 4294967296 ^ L := by
  have htop : (digs D).getD (L - 1) 0 ≠ 0 := by
    rcases top_digs D with h0 | h0
    · rw [h0] at hL
      simp at hL
      omega
    · rw [hL] at h0
      exact h0
  obtain ⟨t, ht⟩ : ∃ t, (digs D).getD (L - 1) 0 = t := ⟨_, rfl⟩
  rw [ht] at htop
  have htb : t < 4294967296 := by rw [← ht]; exact (ok_digs D).getD _
  have e := bl_top (ok_digs D) (k := L - 1) (by rw [hL]; omega) (fun j h1 h2 => by rw [hL] at h2; omega) ht htop
  rw [val_digs, hbl] at e
  have h32 := bl_le32 htb
  have h1 : Go.bitLen t ≠ 0 := by
    intro e0
    have := (bitLen_spec t).1
    rw [e0] at this
    simp at this
    exact htop this
  have hst : s + Go.bitLen t = 32 := by omega
  have NT := norm_top (ok_digs D) hL hL0 ht htop hst
  rw [val_digs] at NT
  have TH := top_half hL0 NT.1 NT.2
  exact ⟨by omega, TH.1, TH.2, NT.2⟩

end Go.Proofs.YtdhjgekbocnnkaaDoor
