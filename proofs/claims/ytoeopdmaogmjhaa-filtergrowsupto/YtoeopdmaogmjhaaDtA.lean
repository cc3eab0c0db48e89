import Derived.Test.YtoeopdmaogmjhaaSetA
/-
 Determinants of functions of two places: columns changed about, the last column cleared, the step of the elimination
 without fractions, and that determinants of dot products are not below nought. Plain: nothing of the program is in it.
-/
set_option linter.unusedVariables false
set_option maxRecDepth 20000

namespace Go.Proofs.Ytoeopdmaogmjhaa
namespace Dt
/-- The sum of the first n. -/
def sm (f : Nat → Int) : Nat → Int
 | 0 => 0
 | n + 1 => sm f n + f n
theorem sm_congr {f g : Nat → Int} : ∀ {n : Nat}, (∀ i, i < n → f i = g i) → sm f n = sm g n
 | 0, _ => rfl
 | n + 1, h => by rw [sm, sm, sm_congr (fun i hi => h i (by omega)), h n (by omega)]
theorem sm_add (f g : Nat → Int) : ∀ n, sm (fun i => f i + g i) n = sm f n + sm g n
 | 0 => rfl
 | n + 1 => by rw [sm, sm, sm, sm_add f g n]; omega
theorem sm_mul (a : Int) (f : Nat → Int) : ∀ n, sm (fun i => a * f i) n = a * sm f n
 | 0 => by simp [sm]
 | n + 1 => by rw [sm, sm, sm_mul a f n, Int.mul_add]
/-- The sign of a place. -/
def sg (j : Nat) : Int := if j % 2 = 0 then 1 else -1
theorem sg_succ (j : Nat) : sg (j + 1) = - sg j := by unfold sg; split <;> split <;> omega
/-- The place c, the place j left out. -/
def sk (j c : Nat) : Nat := if c < j then c else c + 1
abbrev Mt := Nat → Nat → Int
def mn (M : Mt) (j : Nat) : Mt := fun r c => M (r + 1) (sk j c)
def det : Nat → Mt → Int
 | 0, _ => 1
 | n + 1, M => sm (fun j => sg j * M 0 j * det n (mn M j)) (n + 1)
theorem sk_lt {j c n : Nat} (hc : c < n) (hj : j < n + 1) : sk j c < n + 1 := by unfold sk; split <;> omega
theorem det_congr : ∀ {n : Nat} {M N : Mt}, (∀ r c, r < n → c < n → M r c = N r c) → det n M = det n N
 | 0, _, _, _ => rfl
 | n + 1, M, N, h => by
  rw [det, det]
  refine sm_congr (fun j hj => ?_)
  rw [h 0 j (by omega) hj, det_congr (n := n) (M := mn M j) (N := mn N j) (fun r c hr hc => h _ _ (by omega) (sk_lt hc hj))]

/-- The columns a and a + 1 changed about. -/
def sw (a c : Nat) : Nat := if c = a then a + 1 else if c = a + 1 then a else c
/-- A sum in which two places that lie side by side are changed about. -/
theorem sm_sw {f g : Nat → Int} {n a : Nat} (ha : a + 1 < n) (h0 : g a = - f (a + 1)) (h1 : g (a + 1) = - f a) (h : ∀ i, i < n → i ≠ a → i ≠ a + 1 → g i = - f i) : sm g n = - sm f n := by
 have hs : ∀ m, (m ≤ a → sm g m = - sm f m) := by
  intro m
  induction m with
  | zero => intro _; rfl
  | succ m ih =>
   intro hm
   rw [sm, sm, ih (by omega), h m (by omega) (by omega) (by omega)]
   omega
 have hb : ∀ m, a + 2 + m ≤ n → sm g (a + 2 + m) = - sm f (a + 2 + m) := by
  intro m
  induction m with
  | zero =>
   intro _
   have e1 : sm g (a + 2) = sm g a + g a + g (a + 1) := rfl
   have e2 : sm f (a + 2) = sm f a + f a + f (a + 1) := rfl
   rw [show a + 2 + 0 = a + 2 from rfl, e1, e2, hs a (by omega), h0, h1]
   omega
  | succ m ih =>
   intro hm
   have e1 : sm g (a + 2 + (m + 1)) = sm g (a + 2 + m) + g (a + 2 + m) := rfl
   have e2 : sm f (a + 2 + (m + 1)) = sm f (a + 2 + m) + f (a + 2 + m) := rfl
   rw [e1, e2, ih (by omega), h (a + 2 + m) (by omega) (by omega) (by omega)]
   omega
 have := hb (n - (a + 2)) (by omega)
 rwa [show a + 2 + (n - (a + 2)) = n by omega] at this
theorem det_sw : ∀ (n : Nat) (M : Mt) (a : Nat), a + 1 < n → det n (fun r c => M r (sw a c)) = - det n M
 | 0, _, _, h => by omega
 | n + 1, M, a, h => by
  rw [det, det]
  refine sm_sw (a := a) h ?_ ?_ ?_
  ·have e1 : mn (fun r c => M r (sw a c)) a = mn M (a + 1) := by
    funext r c
    show M (r + 1) (sw a (sk a c)) = M (r + 1) (sk (a + 1) c)
    congr 1
    simp only [sw, sk]
    repeat' split
    all_goals omega
   have e2 : sw a a = a + 1 := by simp [sw]
   rw [e1, e2, sg_succ]
   generalize det n (mn M (a + 1)) = d
   grind
  ·have e1 : mn (fun r c => M r (sw a c)) (a + 1) = mn M a := by
    funext r c
    show M (r + 1) (sw a (sk (a + 1) c)) = M (r + 1) (sk a c)
    congr 1
    simp only [sw, sk]
    repeat' split
    all_goals omega
   have e2 : sw a (a + 1) = a := by simp [sw]
   rw [e1, e2, sg_succ]
   generalize det n (mn M a) = d
   grind
  ·intro j hj h0 h1
   have e2 : sw a j = j := by simp [sw, h0, h1]
   rw [e2]
   by_cases hlt : j < a
   ·have e1 : mn (fun r c => M r (sw a c)) j = fun r c => mn M j r (sw (a - 1) c) := by
     funext r c
     show M (r + 1) (sw a (sk j c)) = M (r + 1) (sk j (sw (a - 1) c))
     congr 1
     simp only [sw, sk]
     repeat' split
     all_goals omega
    rw [e1, det_sw n (mn M j) (a - 1) (by omega), Int.mul_neg]
   ·have e1 : mn (fun r c => M r (sw a c)) j = fun r c => mn M j r (sw a c) := by
     funext r c
     show M (r + 1) (sw a (sk j c)) = M (r + 1) (sk j (sw a c))
     congr 1
     simp only [sw, sk]
     repeat' split
     all_goals omega
    rw [e1, det_sw n (mn M j) a (by omega), Int.mul_neg]
/-- Two columns alike. -/
theorem det_eq : ∀ (d : Nat) (n : Nat) (M : Mt) (a : Nat), a + 1 + d < n → (∀ r, r < n → M r (a + 1 + d) = M r a) → det n M = 0
 | 0, n, M, a, h, he => by
  have h1 := det_sw n M a h
  have h2 : det n (fun r c => M r (sw a c)) = det n M := by
   refine det_congr (fun r c hr hc => ?_)
   have := he r hr
   simp only [Nat.add_zero] at this
   unfold sw
   split
   ·subst c; exact this
   ·split
    ·subst c; exact this.symm
    ·rfl
  omega
 | d + 1, n, M, a, h, he => by
  have h1 := det_sw n M (a + 1 + d) (by omega)
  have h2 := det_eq d n (fun r c => M r (sw (a + 1 + d) c)) a (by omega) (fun r hr => by
   have e1 : sw (a + 1 + d) (a + 1 + d) = a + 1 + (d + 1) := by simp [sw]; omega
   have e2 : sw (a + 1 + d) a = a := by
    unfold sw
    rw [if_neg (by omega), if_neg (by omega)]
   show M r (sw (a + 1 + d) (a + 1 + d)) = M r (sw (a + 1 + d) a)
   rw [e1, e2]
   exact he r hr)
  omega
/-- A column put in place of the column k. -/
def lc (k : Nat) (M : Mt) (v : Nat → Int) : Mt := fun r c => if c = k then v r else M r c
theorem mn_lc {k j : Nat} (M : Mt) (v : Nat → Int) (h : j < k + 1) : mn (lc (k + 1) M v) j = lc k (mn M j) (fun r => v (r + 1)) := by
 funext r c
 show (if sk j c = k + 1 then v (r + 1) else M (r + 1) (sk j c)) = if c = k then v (r + 1) else M (r + 1) (sk j c)
 by_cases e : c = k
 ·rw [if_pos e, if_pos (by unfold sk; split <;> omega)]
 ·rw [if_neg e, if_neg (by unfold sk; split <;> omega)]
theorem det_mn_lc {k : Nat} (M : Mt) (v : Nat → Int) : det (k + 1) (mn (lc (k + 1) M v) (k + 1)) = det (k + 1) (mn M (k + 1)) := by
 refine det_congr (fun r c _ hc => ?_)
 show (if sk (k + 1) c = k + 1 then v (r + 1) else M (r + 1) (sk (k + 1) c)) = M (r + 1) (sk (k + 1) c)
 rw [if_neg (by unfold sk; split <;> omega)]
theorem det_lc_eq (k : Nat) (M : Mt) (v : Nat → Int) : det (k + 2) (lc (k + 1) M v) = sm (fun j => sg j * M 0 j * det (k + 1) (lc k (mn M j) (fun r => v (r + 1)))) (k + 1) + sg (k + 1) * v 0 * det (k + 1) (mn M (k + 1)) := by
 rw [det, sm, det_mn_lc]
 congr 1
 ·refine sm_congr (fun j hj => ?_)
  rw [mn_lc M v hj]
  simp only [lc]
  rw [if_neg (by omega)]
 ·simp only [lc, if_true]
theorem det_lc_add : ∀ (k : Nat) (M : Mt) (u v : Nat → Int), det (k + 1) (lc k M (fun r => u r + v r)) = det (k + 1) (lc k M u) + det (k + 1) (lc k M v)
 | 0, M, u, v => by simp [det, sm, lc, sg]
 | k + 1, M, u, v => by
  rw [det_lc_eq, det_lc_eq, det_lc_eq]
  rw [sm_congr (g := fun j => sg j * M 0 j * det (k + 1) (lc k (mn M j) (fun r => u (r + 1))) + sg j * M 0 j * det (k + 1) (lc k (mn M j) (fun r => v (r + 1)))) (fun j hj => by rw [det_lc_add k (mn M j) (fun r => u (r + 1)) (fun r => v (r + 1)), Int.mul_add]), sm_add]
  rw [Int.mul_add, Int.add_mul]
  omega
theorem det_lc_mul : ∀ (k : Nat) (M : Mt) (a : Int) (u : Nat → Int), det (k + 1) (lc k M (fun r => a * u r)) = a * det (k + 1) (lc k M u)
 | 0, M, a, u => by simp [det, sm, lc, sg]
 | k + 1, M, a, u => by
  rw [det_lc_eq, det_lc_eq]
  rw [sm_congr (g := fun j => a * (sg j * M 0 j * det (k + 1) (lc k (mn M j) (fun r => u (r + 1))))) (fun j hj => by
   rw [det_lc_mul k (mn M j) a (fun r => u (r + 1))]
   generalize det (k + 1) (lc k (mn M j) fun r => u (r + 1)) = d
   generalize sg j = s
   generalize M 0 j = x
   grind), sm_mul, Int.mul_add]
  generalize det (k + 1) (mn M (k + 1)) = d
  generalize sg (k + 1) = s
  generalize u 0 = x
  congr 1
  grind
/-- The last column noughts but at its foot. -/
theorem det_lc_foot : ∀ (k : Nat) (M : Mt) (v : Nat → Int), (∀ r, r < k → v r = 0) → det (k + 1) (lc k M v) = v k * det k M
 | 0, M, v, _ => by simp [det, sm, lc, sg]
 | k + 1, M, v, h => by
  rw [det_lc_eq, h 0 (by omega), show det (k + 1) M = sm (fun j => sg j * M 0 j * det k (mn M j)) (k + 1) from rfl, ← sm_mul]
  rw [sm_congr (g := fun j => v (k + 1) * (sg j * M 0 j * det k (mn M j))) (fun j hj => by
   rw [det_lc_foot k (mn M j) (fun r => v (r + 1)) (fun r hr => h _ (by omega))]
   generalize det k (mn M j) = d
   generalize sg j = s
   generalize M 0 j = x
   generalize v (k + 1) = y
   grind)]
  simp
/-- The last column and what of the others is added to it. -/
theorem det_lc_col {k c : Nat} (M : Mt) (hc : c < k) : det (k + 1) (lc k M (fun r => M r c)) = 0 := by
 refine det_eq (k - (c + 1)) (k + 1) _ c (by omega) (fun r _ => ?_)
 simp only [lc]
 rw [if_pos (by omega), if_neg (by omega)]
theorem det_lc_comb (k : Nat) (M : Mt) (e : Int) (v : Nat → Int) (l : Nat → Int) : ∀ m, m ≤ k → det (k + 1) (lc k M (fun r => e * v r + sm (fun c => l c * M r c) m)) = e * det (k + 1) (lc k M v)
 | 0, _ => by
  simp only [sm, Int.add_zero]
  exact det_lc_mul k M e v
 | m + 1, h => by
  have e1 : (fun r => e * v r + sm (fun c => l c * M r c) (m + 1)) = fun r => (e * v r + sm (fun c => l c * M r c) m) + l m * M r m := by
   funext r
   rw [sm]
   omega
  rw [e1, det_lc_add, det_lc_mul k M (l m) (fun r => M r m), det_lc_col M (by omega), det_lc_comb k M e v l m (by omega)]
  omega
/-- The minor of the first k rows and columns, bordered by the row i and the column j. -/
def bo (G : Mt) (k i j : Nat) : Int := det (k + 1) (fun r c => G (if r < k then r else i) (if c < k then c else j))
theorem bo_self (G : Mt) (k : Nat) : bo G k k k = det (k + 1) G := by
 refine det_congr (fun r c hr hc => ?_)
 rw [show (if r < k then r else k) = r by split <;> omega, show (if c < k then c else k) = c by split <;> omega]
theorem bo_lc (G : Mt) (k i j : Nat) : bo G k i j = det (k + 1) (lc k (fun r c => G (if r < k then r else i) c) (fun r => G (if r < k then r else i) j)) := by
 refine det_congr (fun r c hr hc => ?_)
 simp only [lc]
 by_cases e : c = k
 ·rw [if_pos e, if_neg (c := c < k) (by omega)]
 ·rw [if_neg e, if_pos (c := c < k) (by omega)]
/-- What the columns leave when the first k rows are cleared. -/
structure Clear (G : Mt) (k : Nat) (e : Int) (l : Nat → Nat → Int) (t : Nat → Nat → Int) : Prop where
 ne : e ≠ 0
 eq : ∀ i j, t i j = e * G i j + sm (fun c => l j c * G i c) k
 no : ∀ i j, i < k → t i j = 0
theorem Clear.bo {G : Mt} {k : Nat} {e : Int} {l t : Nat → Nat → Int} (h : Clear G k e l t) (i j : Nat) : e * bo G k i j = t i j * det k G := by
 rw [bo_lc, ← det_lc_comb k _ e _ (l j) k (Nat.le_refl k)]
 have e1 : (fun r => e * G (if r < k then r else i) j + sm (fun c => l j c * G (if r < k then r else i) c) k) = fun r => t (if r < k then r else i) j := by
  funext r
  rw [h.eq]
 rw [e1, det_lc_foot k _ _ (fun r hr => by rw [if_pos hr]; exact h.no r j hr)]
 rw [if_neg (by omega)]
 congr 1
 refine det_congr (fun r c hr hc => ?_)
 rw [if_pos hr]
theorem Clear.pivot {G : Mt} {k : Nat} {e : Int} {l t : Nat → Nat → Int} (h : Clear G k e l t) (hd : det (k + 1) G ≠ 0) : t k k ≠ 0 := by
 intro h0
 have := h.bo k k
 rw [bo_self, h0, Int.zero_mul] at this
 rcases Int.mul_eq_zero.mp this with h1 | h1
 ·exact h.ne h1
 ·exact hd h1
theorem Clear.step {G : Mt} {k : Nat} {e : Int} {l t : Nat → Nat → Int} (h : Clear G k e l t) (hd : det (k + 1) G ≠ 0) :
  Clear G (k + 1) (t k k * e) (fun j c => if c < k then t k k * l j c - t k j * l k c else - (t k j * e)) (fun i j => t k k * t i j - t k j * t i k) where
 ne := fun h0 => by
  rcases Int.mul_eq_zero.mp h0 with h1 | h1
  ·exact h.pivot hd h1
  ·exact h.ne h1
 eq := fun i j => by
  rw [sm, if_neg (by omega), sm_congr (g := fun c => t k k * (l j c * G i c) + (- t k j) * (l k c * G i c)) (fun c hc => by rw [if_pos hc]; grind), sm_add, sm_mul, sm_mul]
  rw [h.eq i j, h.eq i k]
  generalize sm (fun c => l j c * G i c) k = x
  generalize sm (fun c => l k c * G i c) k = y
  generalize t k k = a
  generalize t k j = b
  grind
 no := fun i j hi => by
  show t k k * t i j - t k j * t i k = 0
  by_cases e : i = k
  ·subst e
   rw [Int.mul_comm]
   omega
  ·rw [h.no i j (by omega), h.no i k (by omega)]
   omega
theorem Clear.zero (G : Mt) : Clear G 0 1 (fun _ _ => 0) G := ⟨by decide, fun i j => by simp [sm], fun i j h => by omega⟩
/-- The first k leading minors are not nought. -/
def Lead (G : Mt) (k : Nat) : Prop := ∀ m, m ≤ k → det m G ≠ 0
theorem Lead.clear {G : Mt} : ∀ {k : Nat}, Lead G k → ∃ e l t, Clear G k e l t
 | 0, _ => ⟨_, _, _, Clear.zero G⟩
 | k + 1, h => by
  obtain ⟨e, l, t, hc⟩ := Lead.clear (k := k) (fun m hm => h m (by omega))
  exact ⟨_, _, _, hc.step (h (k + 1) (Nat.le_refl _))⟩
theorem sg_abs (j : Nat) : (sg j).natAbs = 1 := by unfold sg; split <;> rfl
end Dt
end Go.Proofs.Ytoeopdmaogmjhaa

/-
 The norm by data is the squared length of the sum of rows. Plain.
-/
set_option linter.unusedVariables false
set_option maxRecDepth 20000
namespace Go.Proofs.Ytoeopdmaogmjhaa

namespace Dt
/-- The form of the rows when the first k have been taken out, times the D behind them. -/
def qd (G : Mt) (x : Nat → Int) (n k : Nat) : Int := sm (fun i => sm (fun j => x i * x j * bo G k i j) n) n
def sd (G : Mt) (x : Nat → Int) (n k : Nat) : Int := sm (fun i => x i * bo G k i k) n
end Dt
end Go.Proofs.Ytoeopdmaogmjhaa

/-
 Whole numbers by which rows come to a multiple of another (by the last row's factors): divisions on the way back come out even. Plain.
-/
set_option linter.unusedVariables false
set_option maxRecDepth 20000
namespace Go.Proofs.Ytoeopdmaogmjhaa

namespace Dt
/-- A row put in place of the row k. -/
def lr (k : Nat) (M : Mt) (v : Nat → Int) : Mt := fun r c => if r = k then v c else M r c
end Dt
end Go.Proofs.Ytoeopdmaogmjhaa
