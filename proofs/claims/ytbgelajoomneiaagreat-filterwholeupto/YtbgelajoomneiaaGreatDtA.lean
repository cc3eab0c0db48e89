import Derived.Test.YtbgelajoomneiaaGreatSetA
/-
 Determinants of functions of two places: columns changed about, the last column cleared, the step of the elimination
 without fractions, and that determinants of dot products are not below nought. Plain: nothing of the program is in it.
-/
set_option linter.unusedVariables false
set_option maxRecDepth 20000

namespace Go.Proofs.YtbgelajoomneiaaGreat
namespace Dt
/-- The sum of the first n. -/
def sm (f : Nat → Int) : Nat → Int
 | 0 => 0
 | n + 1 => sm f n + f n
theorem sm_congr {f g : Nat → Int} : ∀ {n : Nat}, (∀ i, i < n → f i = g i) → sm f n = sm g n
 | 0, _ => rfl
 | n + 1, h => by rw [sm, sm, sm_congr (fun i hi => h i (by omega)), h n (by omega)]
theorem sm_add (f g : Nat → Int) : ∀ n, sm (fun i => f i + g i) n = sm f n + sm g n
 | 0 => rfl
 | n + 1 => by rw [sm, sm, sm, sm_add f g n]; omega
theorem sm_mul (a : Int) (f : Nat → Int) : ∀ n, sm (fun i => a * f i) n = a * sm f n
 | 0 => by simp [sm]
 | n + 1 => by rw [sm, sm, sm_mul a f n, Int.mul_add]
theorem sm_zero : ∀ n, sm (fun _ => 0) n = 0
 | 0 => rfl
 | n + 1 => by rw [sm, sm_zero n]; rfl
theorem sm_comm (f : Nat → Nat → Int) (m : Nat) : ∀ n, sm (fun i => sm (f i) m) n = sm (fun j => sm (fun i => f i j) n) m
 | 0 => by simp [sm, sm_zero]
 | n + 1 => by
  rw [sm, sm_comm f m n, ← sm_add]
  rfl
/-- The sign of a place. -/
def sg (j : Nat) : Int := if j % 2 = 0 then 1 else -1
theorem sg_succ (j : Nat) : sg (j + 1) = - sg j := by unfold sg; split <;> split <;> omega
/-- The place c, the place j left out. -/
def sk (j c : Nat) : Nat := if c < j then c else c + 1
abbrev Mt := Nat → Nat → Int
def mn (M : Mt) (j : Nat) : Mt := fun r c => M (r + 1) (sk j c)
def det : Nat → Mt → Int
 | 0, _ => 1
 | n + 1, M => sm (fun j => sg j * M 0 j * det n (mn M j)) (n + 1)
theorem sk_lt {j c n : Nat} (hc : c < n) (hj : j < n + 1) : sk j c < n + 1 := by unfold sk; split <;> omega
theorem det_congr : ∀ {n : Nat} {M N : Mt}, (∀ r c, r < n → c < n → M r c = N r c) → det n M = det n N
 | 0, _, _, _ => rfl
 | n + 1, M, N, h => by
  rw [det, det]
  refine sm_congr (fun j hj => ?_)
  rw [h 0 j (by omega) hj, det_congr (n := n) (M := mn M j) (N := mn N j) (fun r c hr hc => h _ _ (by omega) (sk_lt hc hj))]

/-- The columns a and a + 1 changed about. -/
def sw (a c : Nat) : Nat := if c = a then a + 1 else if c = a + 1 then a else c
theorem sm_split (f : Nat → Int) (n : Nat) : sm f (n + 1) = sm f n + f n := rfl
/-- A sum in which two places that lie side by side are changed about. -/
theorem sm_sw {f g : Nat → Int} {n a : Nat} (ha : a + 1 < n) (h0 : g a = - f (a + 1)) (h1 : g (a + 1) = - f a) (h : ∀ i, i < n → i ≠ a → i ≠ a + 1 → g i = - f i) : sm g n = - sm f n := by
 have hs : ∀ m, (m ≤ a → sm g m = - sm f m) := by
  intro m
  induction m with
  | zero => intro _; rfl
  | succ m ih =>
   intro hm
   rw [sm, sm, ih (by omega), h m (by omega) (by omega) (by omega)]
   omega
 have hb : ∀ m, a + 2 + m ≤ n → sm g (a + 2 + m) = - sm f (a + 2 + m) := by
  intro m
  induction m with
  | zero =>
   intro _
   have e1 : sm g (a + 2) = sm g a + g a + g (a + 1) := rfl
   have e2 : sm f (a + 2) = sm f a + f a + f (a + 1) := rfl
   rw [show a + 2 + 0 = a + 2 from rfl, e1, e2, hs a (by omega), h0, h1]
   omega
  | succ m ih =>
   intro hm
   have e1 : sm g (a + 2 + (m + 1)) = sm g (a + 2 + m) + g (a + 2 + m) := rfl
   have e2 : sm f (a + 2 + (m + 1)) = sm f (a + 2 + m) + f (a + 2 + m) := rfl
   rw [e1, e2, ih (by omega), h (a + 2 + m) (by omega) (by omega) (by omega)]
   omega
 have := hb (n - (a + 2)) (by omega)
 rwa [show a + 2 + (n - (a + 2)) = n by omega] at this
theorem det_sw : ∀ (n : Nat) (M : Mt) (a : Nat), a + 1 < n → det n (fun r c => M r (sw a c)) = - det n M
 | 0, _, _, h => by omega
 | n + 1, M, a, h => by
  rw [det, det]
  refine sm_sw (a := a) h ?_ ?_ ?_
  ·have e1 : mn (fun r c => M r (sw a c)) a = mn M (a + 1) := by
    funext r c
    show M (r + 1) (sw a (sk a c)) = M (r + 1) (sk (a + 1) c)
    congr 1
    simp only [sw, sk]
    repeat' split
    all_goals omega
   have e2 : sw a a = a + 1 := by simp [sw]
   rw [e1, e2, sg_succ]
   generalize det n (mn M (a + 1)) = d
   grind
  ·have e1 : mn (fun r c => M r (sw a c)) (a + 1) = mn M a := by
    funext r c
    show M (r + 1) (sw a (sk (a + 1) c)) = M (r + 1) (sk a c)
    congr 1
    simp only [sw, sk]
    repeat' split
    all_goals omega
   have e2 : sw a (a + 1) = a := by simp [sw]
   rw [e1, e2, sg_succ]
   generalize det n (mn M a) = d
   grind
  ·intro j hj h0 h1
   have e2 : sw a j = j := by simp [sw, h0, h1]
   rw [e2]
   by_cases hlt : j < a
   ·have e1 : mn (fun r c => M r (sw a c)) j = fun r c => mn M j r (sw (a - 1) c) := by
     funext r c
     show M (r + 1) (sw a (sk j c)) = M (r + 1) (sk j (sw (a - 1) c))
     congr 1
     simp only [sw, sk]
     repeat' split
     all_goals omega
    rw [e1, det_sw n (mn M j) (a - 1) (by omega), Int.mul_neg]
   ·have e1 : mn (fun r c => M r (sw a c)) j = fun r c => mn M j r (sw a c) := by
     funext r c
     show M (r + 1) (sw a (sk j c)) = M (r + 1) (sk j (sw a c))
     congr 1
     simp only [sw, sk]
     repeat' split
     all_goals omega
    rw [e1, det_sw n (mn M j) a (by omega), Int.mul_neg]
/-- Two columns alike. -/
theorem det_eq : ∀ (d : Nat) (n : Nat) (M : Mt) (a : Nat), a + 1 + d < n → (∀ r, r < n → M r (a + 1 + d) = M r a) → det n M = 0
 | 0, n, M, a, h, he => by
  have h1 := det_sw n M a h
  have h2 : det n (fun r c => M r (sw a c)) = det n M := by
   refine det_congr (fun r c hr hc => ?_)
   have := he r hr
   simp only [Nat.add_zero] at this
   unfold sw
   split
   ·subst c; exact this
   ·split
    ·subst c; exact this.symm
    ·rfl
  omega
 | d + 1, n, M, a, h, he => by
  have h1 := det_sw n M (a + 1 + d) (by omega)
  have h2 := det_eq d n (fun r c => M r (sw (a + 1 + d) c)) a (by omega) (fun r hr => by
   have e1 : sw (a + 1 + d) (a + 1 + d) = a + 1 + (d + 1) := by simp [sw]; omega
   have e2 : sw (a + 1 + d) a = a := by
    unfold sw
    rw [if_neg (by omega), if_neg (by omega)]
   show M r (sw (a + 1 + d) (a + 1 + d)) = M r (sw (a + 1 + d) a)
   rw [e1, e2]
   exact he r hr)
  omega
/-- A column put in place of the column k. -/
def lc (k : Nat) (M : Mt) (v : Nat → Int) : Mt := fun r c => if c = k then v r else M r c
theorem mn_lc {k j : Nat} (M : Mt) (v : Nat → Int) (h : j < k + 1) : mn (lc (k + 1) M v) j = lc k (mn M j) (fun r => v (r + 1)) := by
 funext r c
 show (if sk j c = k + 1 then v (r + 1) else M (r + 1) (sk j c)) = if c = k then v (r + 1) else M (r + 1) (sk j c)
 by_cases e : c = k
 ·rw [if_pos e, if_pos (by unfold sk; split <;> omega)]
 ·rw [if_neg e, if_neg (by unfold sk; split <;> omega)]
theorem det_mn_lc {k : Nat} (M : Mt) (v : Nat → Int) : det (k + 1) (mn (lc (k + 1) M v) (k + 1)) = det (k + 1) (mn M (k + 1)) := by
 refine det_congr (fun r c _ hc => ?_)
 show (if sk (k + 1) c = k + 1 then v (r + 1) else M (r + 1) (sk (k + 1) c)) = M (r + 1) (sk (k + 1) c)
 rw [if_neg (by unfold sk; split <;> omega)]
theorem det_lc_eq (k : Nat) (M : Mt) (v : Nat → Int) : det (k + 2) (lc (k + 1) M v) = sm (fun j => sg j * M 0 j * det (k + 1) (lc k (mn M j) (fun r => v (r + 1)))) (k + 1) + sg (k + 1) * v 0 * det (k + 1) (mn M (k + 1)) := by
 rw [det, sm, det_mn_lc]
 congr 1
 ·refine sm_congr (fun j hj => ?_)
  rw [mn_lc M v hj]
  simp only [lc]
  rw [if_neg (by omega)]
 ·simp only [lc, if_true]
theorem det_lc_add : ∀ (k : Nat) (M : Mt) (u v : Nat → Int), det (k + 1) (lc k M (fun r => u r + v r)) = det (k + 1) (lc k M u) + det (k + 1) (lc k M v)
 | 0, M, u, v => by simp [det, sm, lc, sg]
 | k + 1, M, u, v => by
  rw [det_lc_eq, det_lc_eq, det_lc_eq]
  rw [sm_congr (g := fun j => sg j * M 0 j * det (k + 1) (lc k (mn M j) (fun r => u (r + 1))) + sg j * M 0 j * det (k + 1) (lc k (mn M j) (fun r => v (r + 1)))) (fun j hj => by rw [det_lc_add k (mn M j) (fun r => u (r + 1)) (fun r => v (r + 1)), Int.mul_add]), sm_add]
  rw [Int.mul_add, Int.add_mul]
  omega
theorem det_lc_mul : ∀ (k : Nat) (M : Mt) (a : Int) (u : Nat → Int), det (k + 1) (lc k M (fun r => a * u r)) = a * det (k + 1) (lc k M u)
 | 0, M, a, u => by simp [det, sm, lc, sg]
 | k + 1, M, a, u => by
  rw [det_lc_eq, det_lc_eq]
  rw [sm_congr (g := fun j => a * (sg j * M 0 j * det (k + 1) (lc k (mn M j) (fun r => u (r + 1))))) (fun j hj => by
   rw [det_lc_mul k (mn M j) a (fun r => u (r + 1))]
   generalize det (k + 1) (lc k (mn M j) fun r => u (r + 1)) = d
   generalize sg j = s
   generalize M 0 j = x
   grind), sm_mul, Int.mul_add]
  generalize det (k + 1) (mn M (k + 1)) = d
  generalize sg (k + 1) = s
  generalize u 0 = x
  congr 1
  grind
/-- The last column noughts but at its foot. -/
theorem det_lc_foot : ∀ (k : Nat) (M : Mt) (v : Nat → Int), (∀ r, r < k → v r = 0) → det (k + 1) (lc k M v) = v k * det k M
 | 0, M, v, _ => by simp [det, sm, lc, sg]
 | k + 1, M, v, h => by
  rw [det_lc_eq, h 0 (by omega), show det (k + 1) M = sm (fun j => sg j * M 0 j * det k (mn M j)) (k + 1) from rfl, ← sm_mul]
  rw [sm_congr (g := fun j => v (k + 1) * (sg j * M 0 j * det k (mn M j))) (fun j hj => by
   rw [det_lc_foot k (mn M j) (fun r => v (r + 1)) (fun r hr => h _ (by omega))]
   generalize det k (mn M j) = d
   generalize sg j = s
   generalize M 0 j = x
   generalize v (k + 1) = y
   grind)]
  simp
/-- The last column and what of the others is added to it. -/
theorem det_lc_col {k c : Nat} (M : Mt) (hc : c < k) : det (k + 1) (lc k M (fun r => M r c)) = 0 := by
 refine det_eq (k - (c + 1)) (k + 1) _ c (by omega) (fun r _ => ?_)
 simp only [lc]
 rw [if_pos (by omega), if_neg (by omega)]
theorem det_lc_comb (k : Nat) (M : Mt) (e : Int) (v : Nat → Int) (l : Nat → Int) : ∀ m, m ≤ k → det (k + 1) (lc k M (fun r => e * v r + sm (fun c => l c * M r c) m)) = e * det (k + 1) (lc k M v)
 | 0, _ => by
  simp only [sm, Int.add_zero]
  exact det_lc_mul k M e v
 | m + 1, h => by
  have e1 : (fun r => e * v r + sm (fun c => l c * M r c) (m + 1)) = fun r => (e * v r + sm (fun c => l c * M r c) m) + l m * M r m := by
   funext r
   rw [sm]
   omega
  rw [e1, det_lc_add, det_lc_mul k M (l m) (fun r => M r m), det_lc_col M (by omega), det_lc_comb k M e v l m (by omega)]
  omega
/-- The minor of the first k rows and columns, bordered by the row i and the column j. -/
def bo (G : Mt) (k i j : Nat) : Int := det (k + 1) (fun r c => G (if r < k then r else i) (if c < k then c else j))
theorem bo_self (G : Mt) (k : Nat) : bo G k k k = det (k + 1) G := by
 refine det_congr (fun r c hr hc => ?_)
 rw [show (if r < k then r else k) = r by split <;> omega, show (if c < k then c else k) = c by split <;> omega]
theorem bo_lc (G : Mt) (k i j : Nat) : bo G k i j = det (k + 1) (lc k (fun r c => G (if r < k then r else i) c) (fun r => G (if r < k then r else i) j)) := by
 refine det_congr (fun r c hr hc => ?_)
 simp only [lc]
 by_cases e : c = k
 ·rw [if_pos e, if_neg (c := c < k) (by omega)]
 ·rw [if_neg e, if_pos (c := c < k) (by omega)]
theorem bo_zero (G : Mt) (i j : Nat) : bo G 0 i j = G i j := by simp [bo, det, sm, sg]
/-- What the columns leave when the first k rows are cleared. -/
structure Clear (G : Mt) (k : Nat) (e : Int) (l : Nat → Nat → Int) (t : Nat → Nat → Int) : Prop where
 ne : e ≠ 0
 eq : ∀ i j, t i j = e * G i j + sm (fun c => l j c * G i c) k
 no : ∀ i j, i < k → t i j = 0
theorem Clear.bo {G : Mt} {k : Nat} {e : Int} {l t : Nat → Nat → Int} (h : Clear G k e l t) (i j : Nat) : e * bo G k i j = t i j * det k G := by
 rw [bo_lc, ← det_lc_comb k _ e _ (l j) k (Nat.le_refl k)]
 have e1 : (fun r => e * G (if r < k then r else i) j + sm (fun c => l j c * G (if r < k then r else i) c) k) = fun r => t (if r < k then r else i) j := by
  funext r
  rw [h.eq]
 rw [e1, det_lc_foot k _ _ (fun r hr => by rw [if_pos hr]; exact h.no r j hr)]
 rw [if_neg (by omega)]
 congr 1
 refine det_congr (fun r c hr hc => ?_)
 rw [if_pos hr]
theorem Clear.pivot {G : Mt} {k : Nat} {e : Int} {l t : Nat → Nat → Int} (h : Clear G k e l t) (hd : det (k + 1) G ≠ 0) : t k k ≠ 0 := by
 intro h0
 have := h.bo k k
 rw [bo_self, h0, Int.zero_mul] at this
 rcases Int.mul_eq_zero.mp this with h1 | h1
 ·exact h.ne h1
 ·exact hd h1
theorem Clear.step {G : Mt} {k : Nat} {e : Int} {l t : Nat → Nat → Int} (h : Clear G k e l t) (hd : det (k + 1) G ≠ 0) :
  Clear G (k + 1) (t k k * e) (fun j c => if c < k then t k k * l j c - t k j * l k c else - (t k j * e)) (fun i j => t k k * t i j - t k j * t i k) where
 ne := fun h0 => by
  rcases Int.mul_eq_zero.mp h0 with h1 | h1
  ·exact h.pivot hd h1
  ·exact h.ne h1
 eq := fun i j => by
  rw [sm, if_neg (by omega), sm_congr (g := fun c => t k k * (l j c * G i c) + (- t k j) * (l k c * G i c)) (fun c hc => by rw [if_pos hc]; grind), sm_add, sm_mul, sm_mul]
  rw [h.eq i j, h.eq i k]
  generalize sm (fun c => l j c * G i c) k = x
  generalize sm (fun c => l k c * G i c) k = y
  generalize t k k = a
  generalize t k j = b
  grind
 no := fun i j hi => by
  show t k k * t i j - t k j * t i k = 0
  by_cases e : i = k
  ·subst e
   rw [Int.mul_comm]
   omega
  ·rw [h.no i j (by omega), h.no i k (by omega)]
   omega
theorem Clear.zero (G : Mt) : Clear G 0 1 (fun _ _ => 0) G := ⟨by decide, fun i j => by simp [sm], fun i j h => by omega⟩
/-- The first k leading minors are not nought. -/
def Lead (G : Mt) (k : Nat) : Prop := ∀ m, m ≤ k → det m G ≠ 0
theorem Lead.clear {G : Mt} : ∀ {k : Nat}, Lead G k → ∃ e l t, Clear G k e l t
 | 0, _ => ⟨_, _, _, Clear.zero G⟩
 | k + 1, h => by
  obtain ⟨e, l, t, hc⟩ := Lead.clear (k := k) (fun m hm => h m (by omega))
  exact ⟨_, _, _, hc.step (h (k + 1) (Nat.le_refl _))⟩
/-- The step of the elimination without fractions. -/
theorem bo_step {G : Mt} {k : Nat} (h : Lead G (k + 1)) (i j : Nat) : det k G * bo G (k + 1) i j = bo G k k k * bo G k i j - bo G k i k * bo G k k j := by
 obtain ⟨e, l, t, hc⟩ := Lead.clear (k := k) (fun m hm => h m (by omega))
 have hd := h (k + 1) (Nat.le_refl _)
 have h1 := (hc.step hd).bo i j
 have hne := hc.ne
 have hp := hc.bo k k
 have hij := hc.bo i j
 have hik := hc.bo i k
 have hkj := hc.bo k j
 rw [bo_self] at hp ⊢
 generalize det (k + 1) G = d1 at *
 generalize det k G = d0 at *
 generalize bo G (k + 1) i j = b at *
 generalize bo G k i j = bij at *
 generalize bo G k i k = bik at *
 generalize bo G k k j = bkj at *
 generalize t k k = tkk at *
 generalize t i j = tij at *
 generalize t i k = tik at *
 generalize t k j = tkj at *
 have hz : e * e * d1 * (d0 * b - (d1 * bij - bik * bkj)) = 0 := by
  have a1 : e * e * d1 * (d1 * bij - bik * bkj) = d1 * ((e * d1) * (e * bij) - (e * bik) * (e * bkj)) := by grind
  have a2 : e * e * d1 * (d0 * b) = d0 * e * ((e * d1) * b) := by grind
  have a3 : d0 * e * ((tkk * d0) * b) = d0 * d0 * (tkk * e * b) := by grind
  rw [Int.mul_sub, a1, a2, hp, a3, h1, hij, hik, hkj]
  grind
 rcases Int.mul_eq_zero.mp hz with h2 | h2
 ·rcases Int.mul_eq_zero.mp h2 with h3 | h3
  ·rcases Int.mul_eq_zero.mp h3 with h4 | h4 <;> exact absurd h4 hne
  ·exact absurd h3 hd
 ·omega
theorem Clear.sym {G : Mt} (hG : ∀ i j, G i j = G j i) : ∀ {k : Nat}, Lead G k → ∃ e l t, Clear G k e l t ∧ ∀ i j, t i j = t j i
 | 0, _ => ⟨_, _, _, Clear.zero G, hG⟩
 | k + 1, h => by
  obtain ⟨e, l, t, hc, hs⟩ := Clear.sym hG (k := k) (fun m hm => h m (by omega))
  refine ⟨_, _, _, hc.step (h (k + 1) (Nat.le_refl _)), fun i j => ?_⟩
  show t k k * t i j - t k j * t i k = t k k * t j i - t k i * t j k
  rw [hs i j, hs k j, hs i k, Int.mul_comm (t j k)]
theorem bo_sym {G : Mt} (hG : ∀ i j, G i j = G j i) {k : Nat} (h : Lead G k) (i j : Nat) : bo G k i j = bo G k j i := by
 obtain ⟨e, l, t, hc, hs⟩ := Clear.sym hG h
 have h1 := hc.bo i j
 rw [hs i j, ← hc.bo j i] at h1
 exact Int.eq_of_mul_eq_mul_left hc.ne h1
/-- How great. -/
theorem sm_abs {f : Nat → Int} {X : Nat} : ∀ {n : Nat}, (∀ i, i < n → (f i).natAbs ≤ X) → (sm f n).natAbs ≤ n * X
 | 0, _ => by simp [sm]
 | n + 1, h => by
  have h1 := sm_abs (n := n) (fun i hi => h i (by omega))
  have h2 := h n (by omega)
  rw [sm, Nat.add_mul, Nat.one_mul]
  omega
theorem sg_abs (j : Nat) : (sg j).natAbs = 1 := by unfold sg; split <;> rfl
theorem det_abs {X : Nat} : ∀ {n : Nat} {M : Mt}, n ≤ 16 → (∀ r c, r < n → c < n → (M r c).natAbs ≤ X) → (det n M).natAbs ≤ (16 * X) ^ n
 | 0, _, _, _ => by simp [det]
 | n + 1, M, hn, h => by
  rw [det]
  refine Nat.le_trans (sm_abs (X := X * (16 * X) ^ n) (fun j hj => ?_)) ?_
  ·rw [Int.natAbs_mul, Int.natAbs_mul, sg_abs, Nat.one_mul]
   exact Nat.mul_le_mul (h 0 j (by omega) hj) (det_abs (n := n) (by omega) (fun r c hr hc => h _ _ (by omega) (sk_lt hc hj)))
  ·rw [Nat.pow_succ, Nat.mul_comm ((16 * X) ^ n), ← Nat.mul_assoc]
   exact Nat.mul_le_mul (Nat.mul_le_mul hn (Nat.le_refl _)) (Nat.le_refl _)
theorem bo_abs {G : Mt} {X k i j n : Nat} (hk : k < n) (hn : n ≤ 16) (hi : i < n) (hj : j < n) (h : ∀ r c, r < n → c < n → (G r c).natAbs ≤ X) : (bo G k i j).natAbs ≤ (16 * X) ^ (k + 1) :=
 det_abs (by omega) (fun r c hr hc => h _ _ (by split <;> omega) (by split <;> omega))
theorem sm_pos {f : Nat → Int} : ∀ {n : Nat}, (∀ i, i < n → 0 ≤ f i) → 0 ≤ sm f n
 | 0, _ => Int.le_refl _
 | n + 1, h => Int.add_nonneg (sm_pos (fun i hi => h i (by omega))) (h n (by omega))
theorem sm_front (f : Nat → Int) : ∀ n, sm f (n + 1) = f 0 + sm (fun i => f (i + 1)) n
 | 0 => by simp [sm]
 | n + 1 => by
  rw [sm, sm_front f n, sm]
  omega
theorem sm_left (a : Int) (f : Nat → Int) (n : Nat) : sm (fun i => f i * a) n = sm f n * a := by
 rw [Int.mul_comm, ← sm_mul]
 exact sm_congr (fun i _ => Int.mul_comm _ _)
theorem sq_nonneg (a : Int) : 0 ≤ a * a := by
 rcases Int.le_total 0 a with h | h
 ·exact Int.mul_nonneg h h
 ·exact Int.mul_nonneg_of_nonpos_of_nonpos h h
/-- A determinant of dot products is not below nought. -/
theorem gram_pos {G : Mt} {b : Nat → Nat → Int} {w k : Nat} (hG : ∀ i j, G i j = sm (fun x => b i x * b j x) w) (h : Lead G k) (h0 : 0 < det k G) : 0 ≤ det (k + 1) G := by
 obtain ⟨e, l, t, hc⟩ := Lead.clear h
 have hv : ∀ i, sm (fun x => b i x * (e * b k x + sm (fun c => l k c * b c x) k)) w = t i k := fun i => by
  rw [hc.eq i k, hG i k, ← sm_mul, sm_congr (f := fun c => l k c * G i c) (g := fun c => sm (fun x => l k c * (b i x * b c x)) w) (fun c _ => by rw [hG i c, sm_mul]), ← sm_comm (fun x c => l k c * (b i x * b c x)), ← sm_add]
  refine sm_congr (fun x _ => ?_)
  rw [Int.mul_add, ← sm_mul]
  congr 1
  ·grind
  ·exact sm_congr (fun c _ => by grind)
 have hq : sm (fun x => (e * b k x + sm (fun c => l k c * b c x) k) * (e * b k x + sm (fun c => l k c * b c x) k)) w = e * t k k := by
  rw [sm_congr (g := fun x => e * (b k x * (e * b k x + sm (fun c => l k c * b c x) k)) + sm (fun c => l k c * (b c x * (e * b k x + sm (fun c => l k c * b c x) k))) k) (fun x _ => by
   rw [Int.add_mul, ← sm_left]
   congr 1
   ·grind
   ·exact sm_congr (fun c _ => by grind)), sm_add, sm_mul, hv k, sm_comm (fun x c => l k c * (b c x * (e * b k x + sm (fun c => l k c * b c x) k)))]
  rw [sm_congr (g := fun _ => 0) (fun c hk => by rw [sm_mul, hv c, hc.no c k hk, Int.mul_zero]), sm_zero]
  omega
 have hp : 0 ≤ e * t k k := by
  rw [← hq]
  exact sm_pos (fun x _ => sq_nonneg _)
 have h1 := hc.bo k k
 rw [bo_self] at h1
 have h2 : (e * e) * det (k + 1) G = (e * t k k) * det k G := by rw [Int.mul_assoc, h1, Int.mul_assoc]
 have h3 : 0 ≤ (e * e) * det (k + 1) G := by
  rw [h2]
  exact Int.mul_nonneg hp (Int.le_of_lt h0)
 have h4 : 0 < e * e := by
  have := sq_nonneg e
  have : e * e ≠ 0 := fun h => by
   rcases Int.mul_eq_zero.mp h with h | h <;> exact hc.ne h
  omega
 rcases Int.lt_or_le (det (k + 1) G) 0 with h5 | h5
 ·have := Int.mul_neg_of_pos_of_neg h4 h5
  omega
 ·exact h5
end Dt
end Go.Proofs.YtbgelajoomneiaaGreat

/-
 The norm by data is the squared length of the sum of rows. Plain.
-/
set_option linter.unusedVariables false
set_option maxRecDepth 20000
namespace Go.Proofs.YtbgelajoomneiaaGreat

namespace Dt
theorem bo_row0 {G : Mt} {k i : Nat} (h : Lead G k) (hi : i < k) (j : Nat) : bo G k i j = 0 := by
 obtain ⟨e, l, t, hc⟩ := Lead.clear h
 have h1 := hc.bo i j
 rw [hc.no i j hi, Int.zero_mul] at h1
 rcases Int.mul_eq_zero.mp h1 with h2 | h2
 ·exact absurd h2 hc.ne
 ·exact h2
/-- The form of the rows when the first k have been taken out, times the D behind them. -/
def qd (G : Mt) (x : Nat → Int) (n k : Nat) : Int := sm (fun i => sm (fun j => x i * x j * bo G k i j) n) n
def sd (G : Mt) (x : Nat → Int) (n k : Nat) : Int := sm (fun i => x i * bo G k i k) n
theorem qd_step {G : Mt} (hG : ∀ i j, G i j = G j i) {x : Nat → Int} {n k : Nat} (h : Lead G (k + 1)) : det k G * qd G x n (k + 1) = det (k + 1) G * qd G x n k - sd G x n k * sd G x n k := by
 have hk : Lead G k := fun m hm => h m (by omega)
 have e : sd G x n k * sd G x n k = sm (fun i => sm (fun j => (x i * bo G k i k) * (x j * bo G k j k)) n) n := by
  rw [sd, ← sm_left]
  exact sm_congr (fun i _ => (sm_mul _ _ _).symm)
 have e2 : det (k + 1) G * qd G x n k = sm (fun i => sm (fun j => det (k + 1) G * (x i * x j * bo G k i j)) n) n := by
  rw [qd, ← sm_mul]
  exact sm_congr (fun i _ => (sm_mul _ _ _).symm)
 have e3 : det k G * qd G x n (k + 1) = sm (fun i => sm (fun j => det k G * (x i * x j * bo G (k + 1) i j)) n) n := by
  rw [qd, ← sm_mul]
  exact sm_congr (fun i _ => (sm_mul _ _ _).symm)
 have key : det k G * qd G x n (k + 1) + sd G x n k * sd G x n k = det (k + 1) G * qd G x n k := by
  rw [e, e2, e3, ← sm_add]
  refine sm_congr (fun i _ => ?_)
  rw [← sm_add]
  refine sm_congr (fun j _ => ?_)
  have hs := bo_step h i j
  rw [bo_self, bo_sym hG hk k j] at hs
  have a : det k G * (x i * x j * bo G (k + 1) i j) = x i * x j * (det k G * bo G (k + 1) i j) := by grind
  rw [a, hs]
  grind
 omega
theorem qd_last {G : Mt} {x : Nat → Int} {n : Nat} (h : Lead G n) : qd G x n n = 0 := by
 rw [qd, sm_congr (g := fun _ => 0) (fun i hi => by
  rw [sm_congr (g := fun _ => 0) (fun j _ => by rw [bo_row0 h hi j, Int.mul_zero]), sm_zero]), sm_zero]
theorem sm_from {f : Nat → Int} : ∀ {k n : Nat}, k < n → (∀ i, i < k → f i = 0) → sm f n = f k + sm (fun t => f (k + 1 + t)) (n - 1 - k)
 | 0, n + 1, _, _ => by
  rw [sm_front]
  congr 1
  exact sm_congr (fun t _ => by rw [Nat.zero_add, Nat.add_comm])
 | k + 1, n + 1, h, h0 => by
  rw [sm_front, h0 0 (by omega), sm_from (f := fun i => f (i + 1)) (k := k) (n := n) (by omega) (fun i hi => h0 (i + 1) (by omega))]
  rw [show n + 1 - 1 - (k + 1) = n - 1 - k by omega, Int.zero_add]
  congr 1
  exact sm_congr (fun t _ => by rw [show k + 1 + t + 1 = k + 1 + 1 + t by omega])
theorem sd_from {G : Mt} {x : Nat → Int} {n k : Nat} (h : Lead G k) (hk : k < n) : sd G x n k = x k * det (k + 1) G + sm (fun t => x (k + 1 + t) * bo G k (k + 1 + t) k) (n - 1 - k) := by
 rw [sd, sm_from hk (fun i hi => by rw [bo_row0 h hi, Int.mul_zero]), bo_self]
/-- The norm by data is the squared length. -/
theorem norm_len {G : Mt} (hG : ∀ i j, G i j = G j i) {x : Nat → Int} {n : Nat} (h : Lead G n) {P Q : Nat → Int} (p0 : P 0 = 0) (q0 : Q 0 = 1) (ps : ∀ k, k < n → P (k + 1) = P k * (det k G * det (k + 1) G) + sd G x n k * sd G x n k * Q k) (qs : ∀ k, k < n → Q (k + 1) = Q k * (det k G * det (k + 1) G)) : P n = qd G x n 0 * Q n := by
 have key : ∀ k, k ≤ n → P k * det k G + qd G x n k * Q k = qd G x n 0 * (Q k * det k G) := by
  intro k
  induction k with
  | zero =>
   intro _
   rw [p0, q0]
   simp [det]
  | succ k ih =>
   intro hk
   have i1 := ih (by omega)
   have i2 := qd_step hG (x := x) (n := n) (k := k) (fun m hm => h m (by omega))
   rw [ps k (by omega), qs k (by omega)]
   generalize det k G = d0 at *
   generalize det (k + 1) G = d1 at *
   generalize qd G x n (k + 1) = a1 at *
   generalize qd G x n k = a0 at *
   generalize qd G x n 0 = a at *
   generalize sd G x n k = s at *
   generalize P k = p at *
   generalize Q k = q at *
   have b1 : (p * (d0 * d1) + s * s * q) * d1 + a1 * (q * (d0 * d1)) = d1 * (p * d0 * d1 + s * s * q + q * (d0 * a1)) := by grind
   have b2 : d1 * (p * d0 * d1 + s * s * q + q * (d1 * a0 - s * s)) = d1 * d1 * (p * d0 + a0 * q) := by grind
   rw [b1, i2, b2, i1]
   grind
 have h1 := key n (Nat.le_refl n)
 rw [qd_last h] at h1
 have hd := h n (Nat.le_refl n)
 have h2 : det n G * P n = det n G * (qd G x n 0 * Q n) := by
  generalize det n G = d at *
  generalize qd G x n 0 = a at *
  generalize P n = p at *
  generalize Q n = q at *
  grind
 exact Int.eq_of_mul_eq_mul_left hd h2
end Dt
end Go.Proofs.YtbgelajoomneiaaGreat

/-
 Whole numbers by which rows come to a multiple of another (by the last row's factors): divisions on the way back come out even. Plain.
-/
set_option linter.unusedVariables false
set_option maxRecDepth 20000
namespace Go.Proofs.YtbgelajoomneiaaGreat

namespace Dt
end Dt
end Go.Proofs.YtbgelajoomneiaaGreat
