import Derived.Test.YtdiagoaakadniaaGreatGlA
import Derived.Test.YtdiagoaakadniaaGreatRsK
import Derived.Test.YtdiagoaakadniaaGreatRrA
import Derived.Test.YtdiagoaakadniaaGreatGsA
namespace Go.Proofs.YtdiagoaakadniaaGreat
open Go Go.RowKit Nt
set_option linter.unusedSimpArgs false
set_option linter.unusedVariables false
set_option maxRecDepth 20000
set_option maxHeartbeats 16000000
theorem yd7 (p : Nat → Bool) : ∀ n, (∀ j, j < n → p j = true) ∨ ∃ i, i < n ∧ p i = false ∧ ∀ j, j < i → p j = true
 | 0 => Or.inl (fun j h => by omega)
 | n + 1 => by
  rcases yd7 p n with h | ⟨i, h1, h2, h3⟩
  ·cases e : p n with
   | true => exact Or.inl (fun j hj => by rcases Nat.lt_or_ge j n with h' | h'; exact h j h'; rw [show j = n by omega]; exact e)
   | false => exact Or.inr ⟨n, by omega, e, h⟩
  ·exact Or.inr ⟨i, by omega, h2, h3⟩
structure Good (D : List Int) (L : List (List Int)) : Prop where
 some : L.length ≠ 0
 len : D.length = L.length + 1
 one : D.getD 0 0 = 1
 row : ∀ i, i < L.length → (L.getD i []).length = i
 pos : ∀ i, i < L.length → 0 < D.getD (i + 1) 0
inductive Bad (D : List Int) (L : List (List Int)) : Prop
 | none : L.length = 0 → Bad D L
 | len : L.length ≠ 0 → D.length ≠ L.length + 1 → Bad D L
 | one : L.length ≠ 0 → D.length = L.length + 1 → D.getD 0 0 ≠ 1 → Bad D L
 | row (i0 : Nat) : L.length ≠ 0 → D.length = L.length + 1 → D.getD 0 0 = 1 → i0 < L.length → (∀ j, j < i0 → (L.getD j []).length = j ∧ 0 < D.getD (j + 1) 0) → ((L.getD i0 []).length ≠ i0 ∨ ((L.getD i0 []).length = i0 ∧ D.getD (i0 + 1) 0 ≤ 0)) → Bad D L
theorem Good.d {D : List Int} {L : List (List Int)} (h : Good D L) (i : Nat) (hi : i < D.length) : 0 < D.getD i 0 := by
 cases i with
 | zero => rw [h.one]; decide
 | succ i => exact h.pos i (by have := h.len; omega)
theorem yjm {z : Int} (h : 0 < z) : z.sign = 1 := Int.sign_eq_one_of_pos h
theorem yl4 {z : Int} (h : z ≤ 0) : z.sign ≤ 0 := by
 rcases Int.lt_or_le z 0 with h1 | h1
 ·rw [Int.sign_eq_neg_one_of_neg h1]; decide
 ·rw [show z = 0 by omega]; decide
inductive RBad (D : List Int) (L : List (List Int)) : Prop
 | none : L.length = 0 → RBad D L
 | len : L.length ≠ 0 → D.length ≠ L.length + 1 → RBad D L
 | one : L.length ≠ 0 → D.length = L.length + 1 → D.getD 0 0 ≠ 1 → RBad D L
 | pos (i0 : Nat) : L.length ≠ 0 → D.length = L.length + 1 → D.getD 0 0 = 1 → i0 < D.length → (∀ j, j < i0 → 0 < D.getD j 0) → D.getD i0 0 ≤ 0 → RBad D L
 | row (i0 : Nat) : L.length ≠ 0 → D.length = L.length + 1 → D.getD 0 0 = 1 → (∀ j, j < D.length → 0 < D.getD j 0) → i0 < L.length → (∀ j, j < i0 → (L.getD j []).length = j) → (L.getD i0 []).length ≠ i0 → RBad D L
theorem Bad.r {D : List Int} {L : List (List Int)} (h : Bad D L) : RBad D L := by
 cases h with
 | none h => exact .none h
 | len h1 h2 => exact .len h1 h2
 | one h1 h2 h3 => exact .one h1 h2 h3
 | row i0 h1 h2 h3 h4 h5 h6 =>
  rcases yd7 (fun j => decide (0 < D.getD j 0)) D.length with h | ⟨i, hi, h7, h8⟩
  ·rcases yd7 (fun j => decide ((L.getD j []).length = j)) L.length with g | ⟨j, hj, g1, g2⟩
   ·rcases h6 with h6 | ⟨_, h6⟩
    ·exact absurd (of_decide_eq_true (g i0 h4)) h6
    ·have := of_decide_eq_true (h (i0 + 1) (by omega)); omega
   ·exact .row j h1 h2 h3 (fun k hk => of_decide_eq_true (h k hk)) hj (fun k hk => of_decide_eq_true (g2 k hk)) (of_decide_eq_false g1)
  ·exact .pos i h1 h2 h3 hi (fun j hj => of_decide_eq_true (h8 j hj)) (by have := of_decide_eq_false h7; omega)
theorem ymt {A : Int} {k : Nat} (hk : k ≤ 67108864) : ∀ w u, Zv A k u w → Calls Tryz.prog 11 #[u] w (Gives (RN A 1) w) := by
 rintro w u ⟨s, p, n, c, xs, rfl, h, rfl, hn⟩
 exact yh6 (rof_c w s p n c xs h (by omega))
theorem zn_nmx {z : Int} {lo : Nat} : ∀ v w, ZN z lo v w → Nmx (ng z) (digs z.natAbs) v w := fun v w ⟨r, c, e, h, _⟩ => ⟨r, _, c, e, h⟩
theorem yqp {N : Int} {D lo : Nat} : ∀ v w, RN N D lo v w → PR (Nmx (ng N) (digs N.natAbs)) (Nmx (ng (D : Int)) (digs (D : Int).natAbs)) v w := pr_imp zn_nmx zn_nmx
theorem yoh (w : World) (u v : Value) (s t : Bool) (xs ys : List Nat) (h : Hs w (PR (Nmx s xs) (Nmx t ys)) u) (h' : Hs w (PR (Nmx s xs) (Nmx t ys)) v) :
  Calls Tryz.prog 7 #[u, v] w (Gives (IS (.bool true)) w) := by
 refine yam (sl := [(0, (PR (Nmx s xs) (Nmx t ys))), (1, (PR (Nmx s xs) (Nmx t ys)))]) Tryz.func7 rfl Tryz.ntmps7 (by simp) (yab rfl (h) (yab rfl (h') yaq)) ?_
 intro a0 S0
 refine wq [.new (.box 28 (PR (Nmx s xs) (Nmx t ys))), .new (.box 28 (PR (Nmx s xs) (Nmx t ys))), kF] [.inl 0, .inl 1] [] S0 ?_ ?_
 ·apply jj3
  ·exact ycr rfl wA rfl (oS 0 0) rfl (fun ρ w h => yep (ych yhg yhg) ρ _ _ w h)
  ·exact ycr rfl wA rfl (oS 1 1) rfl (fun ρ w h => yep (ych yhg yhg) ρ _ _ w h)
  ·exact mC
 intro _ a1 _ (S1 : Sta w 17 [(2, (.box 28 (PR (Nmx s xs) (Nmx t ys)))), (3, (.box 28 (PR (Nmx s xs) (Nmx t ys))))] [] _ _ _)
 refine wq [.val (Part a1 2 0), .val (Nmx s xs), .val (Part a1 3 0), .val (Nmx s xs), kT, kT, .val (Part a1 2 2), .val (Nmx t ys), .val (Part a1 3 2), .val (Nmx t ys), kT, kT, kT] [] [.inl 12] S1 ?_ ?_
 ·repeat' refine And.intro ?_ ?_
  ·trivial
  ·exact ya2 rfl wA rfl (k := 0) rfl (by kernel_rfl) rfl (fun ρ w b h => ydl ρ _ _ w b 0 h)
  ·exact yav rfl wA rfl (oO 0 5) (k := 0) rfl (by kernel_rfl) rfl (fun ρ w b u h1 h2 h3 => ydm ρ _ _ w b u h1 h2 h3)
  ·exact ya2 rfl wA rfl (k := 1) rfl (by kernel_rfl) rfl (fun ρ w b h => ydl ρ _ _ w b 0 h)
  ·exact yav rfl wA rfl (oO 2 7) (k := 1) rfl (by kernel_rfl) rfl (fun ρ w b u h1 h2 h3 => ydm ρ _ _ w b u h1 h2 h3)
  ·exact cc2 wA (qO 1 6 rfl) (qO 3 8 rfl) (yak _) h_eq
  ·exact mO 4 9
  ·exact ya2 rfl (wI 5 10) rfl (k := 0) rfl (by kernel_rfl) rfl (fun ρ w b h => ycj ρ _ _ w b 0 h)
  ·exact yav rfl (wI 5 10) rfl (oO 6 11) (k := 0) rfl (by kernel_rfl) rfl (fun ρ w b u h1 h2 h3 => yck ρ _ _ w b u h1 h2 h3)
  ·exact ya2 rfl (wI 5 10) rfl (k := 1) rfl (by kernel_rfl) rfl (fun ρ w b h => ycj ρ _ _ w b 0 h)
  ·exact yav rfl (wI 5 10) rfl (oO 8 13) (k := 1) rfl (by kernel_rfl) rfl (fun ρ w b u h1 h2 h3 => yck ρ _ _ w b u h1 h2 h3)
  ·exact cc2 (wI 5 10) (qO 7 12 rfl) (qO 9 14 rfl) (yak _) h_eq
  ·exact pT wA (oO 5 10) (oO 10 15)
  ·exact mO 11 16
 intro _ a2 _ (S2 : Sta w 17 [] [(4, bT)] _ _ _)
 refine wp_ret ?_
 exact ybe S2 rfl (yay S2 0 4 rfl)
def QQ (P : Int) (Q : Nat) : Nat → Pr := RN (nR P Q) (dR P Q)
theorem ybh (P : Int) (Q : Nat) : Fresh (QQ P Q) := yk1 _ _
theorem yff {P P' : Int} {Q Q' : Nat} (hQ : Q ≠ 0) (hQ' : Q' ≠ 0) (h : P * (Q' : Int) = P' * (Q : Int)) : QQ P Q = QQ P' Q' := by
 obtain ⟨a, b⟩ := low_one hQ hQ' h
 unfold QQ
 rw [a, b]
theorem qq_1 (A : Int) : RN A 1 = QQ A 1 := by
 unfold QQ nR dR
 rw [Nat.gcd_one_right, Nat.div_one, Nat.div_one]
 congr 1
 unfold sg ng
 by_cases h : A < 0
 ·simp [h]; omega
 ·simp [h]; omega
theorem ya6 {P : Int} {Q lo : Nat} : Shp 4 (QQ P Q lo) := ych ya0 ya0
theorem ylj {P : Int} {Q k lo : Nat} (h : (digs P.natAbs).length ≤ k) (h' : (digs Q).length ≤ k) : ∀ v w, QQ P Q lo v w → Rv (nR P Q) ((dR P Q : Nat) : Int) k k v w := rn_rv (nR_len h) (dR_len h')
theorem q_cross {P P' : Int} {Q Q' : Nat} : (nR P Q * (dR P' Q' : Int) + nR P' Q' * (dR P Q : Int)) * ((Q * Q' : Nat) : Int) = (P * (Q' : Int) + P' * (Q : Int)) * ((dR P Q * dR P' Q' : Nat) : Int) := by
 have e1 := yhp P Q
 have e2 := yhp P' Q'
 rw [Int.natCast_mul, Int.natCast_mul]
 generalize nR P Q = n at *
 generalize nR P' Q' = n' at *
 generalize (dR P Q : Int) = d at *
 generalize (dR P' Q' : Int) = d' at *
 generalize (Q : Int) = q at *
 generalize (Q' : Int) = q' at *
 grind
theorem q_crossm {P P' : Int} {Q Q' : Nat} : (nR P Q * nR P' Q') * ((Q * Q' : Nat) : Int) = (P * P') * ((dR P Q * dR P' Q' : Nat) : Int) := by
 have e1 := yhp P Q
 have e2 := yhp P' Q'
 rw [Int.natCast_mul, Int.natCast_mul]
 generalize nR P Q = n at *
 generalize nR P' Q' = n' at *
 generalize (dR P Q : Int) = d at *
 generalize (dR P' Q' : Int) = d' at *
 generalize (Q : Int) = q at *
 generalize (Q' : Int) = q' at *
 grind
theorem q_radd {P P' : Int} {Q Q' k k' lo lo' : Nat} (hQ : Q ≠ 0) (hQ' : Q' ≠ 0) (b1 : (digs P.natAbs).length ≤ k) (b2 : (digs Q).length ≤ k) (b3 : (digs P'.natAbs).length ≤ k') (b4 : (digs Q').length ≤ k') (hk : k ≤ 8388608) (hk' : k' ≤ 8388608) :
  ∀ w u v, QQ P Q lo u w → QQ P' Q' lo' v w → Calls Tryz.prog 12 #[u, v] w (Gives (QQ (P * (Q' : Int) + P' * (Q : Int)) (Q * Q')) w) := fun w u v h h' => by
 have := g_rradd (ye7 hQ) (ye7 hQ') hk hk hk' hk' w u v (ylj b1 b2 u w h) (ylj b3 b4 v w h')
 exact Gives.cast this (yff (Nat.mul_ne_zero (ye7 hQ) (ye7 hQ')) (Nat.mul_ne_zero hQ hQ') q_cross)
theorem yi8 {P P' : Int} {Q Q' k k' lo lo' : Nat} (hQ : Q ≠ 0) (hQ' : Q' ≠ 0) (b1 : (digs P.natAbs).length ≤ k) (b2 : (digs Q).length ≤ k) (b3 : (digs P'.natAbs).length ≤ k') (b4 : (digs Q').length ≤ k') (hk : k ≤ 8388608) (hk' : k' ≤ 8388608) :
  ∀ w u v, QQ P Q lo u w → QQ P' Q' lo' v w → Calls Tryz.prog 10 #[u, v] w (Gives (QQ (P * P') (Q * Q')) w) := fun w u v h h' => by
 have hD := ye7 (X := P) hQ
 have hM := ye7 (X := P') hQ'
 have key := rmulq_w w u v (nR P Q) (nR P' Q') (dR P Q) (dR P' Q') k k k' k' (yjl (ylj b1 b2 u w h)).hs (yjl (ylj b3 b4 v w h')).hs hD hM hk hk hk' hk'
 exact Gives.cast key (yff (Nat.mul_ne_zero hD hM) (Nat.mul_ne_zero hQ hQ') q_crossm)
def dN (D : List Int) (i : Nat) : Nat := (D.getD i 0).toNat
theorem dN_eq {D : List Int} {L : List (List Int)} (g : Good D L) {i : Nat} (hi : i < D.length) : D.getD i 0 = (dN D i : Int) ∧ dN D i ≠ 0 := by
 have := g.d i hi
 unfold dN
 omega
def bhL (x : List Int) (L : List (List Int)) (i : Nat) : Nat → List Int
 | 0 => []
 | t + 1 => bhL x L i t ++ [x.getD (i + 1 + t) 0 * (L.getD (i + 1 + t) []).getD i 0]
theorem ykq (x : List Int) (L : List (List Int)) (i : Nat) : ∀ t, (bhL x L i t).length = t
 | 0 => rfl
 | t + 1 => by simp [bhL, ykq x L i t]
theorem mv_mdl {n k : Nat} {A : List (List Int)} {u : Value} {w : World} (h : Mv n A k u w) : Mdl A k := fun i r hr => by
 obtain ⟨p, c, _, _, _, hall⟩ := h
 obtain ⟨b, o, v, _, _, _, hv⟩ := hall i (Vv r.length r k) (by rw [List.getElem?_map, hr]; rfl)
 exact yjq hv
theorem sf_mdl {nD nL K : Nat} {D : List Int} {L : List (List Int)} {u : Value} {w : World} (h : SF [Vv nD D K, Mv nL L K] u w) : Mdl L K := by
 obtain ⟨cs, _, _, _, hp⟩ := h
 obtain ⟨v, _, hv⟩ := hp 1 _ rfl
 exact mv_mdl hv
theorem mdl_getD {L : List (List Int)} {K : Nat} (h : Mdl L K) (i : Nat) : Dl (L.getD i []) K := by
 rw [List.getD_eq_getElem?_getD]
 cases e : L[i]? with
 | none => exact fun j z hz => by simp at hz
 | some r => exact h i r e
def wtD (D : List Int) : Nat → Nat
 | 0 => 0
 | k + 1 => wtD D k + (digs (D.getD k 0).natAbs).length
theorem bhL_dl {x : List Int} {L : List (List Int)} {K : Nat} (hx : Dl x K) (hL : Mdl L K) (i : Nat) : ∀ t, Dl (bhL x L i t) (2 * K)
 | 0 => fun j z h => by simp [bhL] at h
 | t + 1 => fun j z h => by
  have hl := ykq x L i t
  rcases Nat.lt_or_ge j t with h1 | h1
  ·rw [bhL, List.getElem?_append_left (by omega)] at h
   exact bhL_dl hx hL i t j z h
  ·rw [bhL, List.getElem?_append_right (by omega)] at h
   cases hj : j - (bhL x L i t).length with
   | zero =>
    rw [hj] at h
    simp only [List.getElem?_cons_zero, Option.some.injEq] at h
    rw [← h, Int.natAbs_mul]
    exact Nat.le_trans (yap (ydc hx _) (ydc (mdl_getD hL _) _)) (by omega)
   | succ s => rw [hj] at h; simp at h
abbrev yfo (nD : Nat) (nL : Nat) (K : Nat) (D : List Int) (L : List (List Int)) : Rk := .box 42 (SF [(Vv nD D K), (Mv nL L K)])
abbrev yf7  : Rk := .box 26 zI
theorem behind_w (w : World) (u v : Value) (nD nL n K : Nat) (D x : List Int) (L : List (List Int)) (h : Hs w (SF [Vv nD D K, Mv nL L K]) u) (hv : Hs w (Vv n x K) v) (hD : nD ≤ 1048576) (hL : nL ≤ 1048576) (hn : n ≤ 1048576) (hK : K ≤ 500000000) (lD : D.length = nD) (lL : L.length = nL) (lx : x.length = n) (i : Nat) (en : nL = n) (hi : i < n) (hr : ∀ j, j < nL → (L.getD j []).length = j) :
  Calls Tryz.prog 48 #[u, v, .int .i64 (i : Nat)] w (Gives (ZN (sumZ (bhL x L i (n - 1 - i)))) w) := by
 have hmdl := sf_mdl h.now
 have hdx := yjq hv.now
 refine yam (sl := [(0, (SF [(Vv nD D K), (Mv nL L K)])), (1, (Vv n x K)), (2, (iV (i : Nat)))]) Tryz.func48 rfl Tryz.ntmps48 (by simp) (yab rfl (h) (yab rfl (hv) (yab rfl (ygn _) yaq))) ?_
 intro a0 S0
 refine wq [.new (yfo nD nL K D L), .new (yf7)] [.inl 0, .inl 1] [.inr 1, .inr 2] S0 ?_ ?_
 ·apply jj2
  ·exact ycr rfl wA rfl (oS 0 0) rfl (fun ρ w h => yn8 yb1 ρ _ _ w h)
  ·exact yat rfl wA rfl rfl (fun ρ w => ybi ρ _ w)
 intro _ a1 _ (S1 : Sta w 36 [(3, (yfo nD nL K D L)), (6, (yf7))] [(1, Vv n x K), (2, iV (i : Nat))] _ _ _)
 refine wq [.new (.row 26 2 0 (CE 2 (((bhL x L i 0).map ZN).map (· w.heap.size)))), .ref 0] [.inr 0, .inr 1, .inl 1] [.inr 0, .inr 1] S1 ?_ ?_
 ·apply jj2
  ·exact owe_newb0 rfl wA rfl bld0_int yjx rfl
  ·exact yea 0 rfl wA (Or.inr rfl) (by kernel_rfl) rfl rfl
 intro _ a2 _ (S2 : Sta w 36 [(3, (yfo nD nL K D L)), (6, (yf7)), (7, (.row 26 2 0 (CE 2 (((bhL x L i 0).map ZN).map (· w.heap.size)))))] [(1, Vv n x K), (2, iV (i : Nat))] _ _ _)
 refine wp_seq ?_
 refine wq [.val (iV (i : Nat)), .val (iV ((i + 1 + 0 : Nat) : Int)), .val (iV ((i + 1 + 0 : Nat) : Int))] [.inr 0, .inr 1, .inr 2] [.inl 2, .inr 0, .inr 1] S2 ?_ ?_
 ·apply jj3
  ·exact mS 1 2
  ·exact ya3 wA (oO 0 10) (yaa _)
  ·exact mO 1 11
 intro B3 a3 _ (S3 : Sta w 36 [(3, (yfo nD nL K D L)), (6, (yf7)), (7, (.row 26 2 0 (CE 2 (((bhL x L i 0).map ZN).map (· w.heap.size)))))] [(8, iV ((i + 1 + 0 : Nat) : Int)), (1, Vv n x K), (2, iV (i : Nat))] _ _ _)
 refine wp_block ?_
 refine yan (fun (t : Nat) a W => (t ≤ n - 1 - i) ∧ ∃ Bq, Sta w 36 [(3, (yfo nD nL K D L)), (6, (yf7)), (7, (.row 26 2 t (CE 2 (((bhL x L i t).map ZN).map (· w.heap.size)))))] [(8, iV ((i + 1 + t : Nat) : Int)), (1, Vv n x K), (2, iV (i : Nat))] Bq a W) (fun (t : Nat) => n - 1 - i - t) ?_ 0 ⟨Nat.zero_le _, B3, S3.sub [0, 1, 2] [0, 1, 2]⟩
 rintro t a4 _ ⟨hcond, _, S4⟩
 by_cases hlt : t < n - 1 - i
 ·have hrj := hr (i + 1 + t) (by omega)
  refine wp_seq ?_
  refine wq [.val (iV ((i + 1 + t : Nat) : Int)), .val (Vv n x K), .val (iV (n : Nat)), kT] [.inr 0, .inr 1, .inr 2] [.inl 3, .inr 0, .inr 1, .inr 2] S4 ?_ ?_
  ·apply jj4
   ·exact mS 0 8
   ·exact mS 1 1
   ·exact yal rfl wA rfl (oO 1 13) yaw Tryz.underlying39 rfl
   ·exact yar wA (oO 0 12) (oO 2 14)
  intro B5 a5 W5 (S5 : Sta w 36 [(3, (yfo nD nL K D L)), (6, (yf7)), (7, (.row 26 2 t (CE 2 (((bhL x L i t).map ZN).map (· w.heap.size)))))] [(15, bT), (8, iV ((i + 1 + t : Nat) : Int)), (1, Vv n x K), (2, iV (i : Nat))] _ _ _)
  refine wp_cond_true (S5.bool 0 15 rfl) (wp_skip (thenN (wp_seq (wp_block ?_))))
  refine wr [.val (Is (a5.eval (.tmp 7))), .val (Vv n x K), .val (iV ((i + 1 + t : Nat) : Int)), .val (AtE 2 (Zv (x.getD (i + 1 + t) 0) K)), .val (Zv (x.getD (i + 1 + t) 0) K), .val (Part a5 3 1), .val (Mv nL L K), .val (iV ((i + 1 + t : Nat) : Int)), .val (AtE 1 (Vv (i + 1 + t) (L.getD (i + 1 + t) []) K)), .val (Vv (i + 1 + t) (L.getD (i + 1 + t) []) K), .val (iV (i : Nat)), .val (AtE 2 (Zv ((L.getD (i + 1 + t) []).getD i 0) K)), .val (Zv ((L.getD (i + 1 + t) []).getD i 0) K), .val ((ZN ((x.getD (i + 1 + t) 0) * ((L.getD (i + 1 + t) []).getD i 0))) w.heap.size), .val (Sng 26 2 ((ZN ((x.getD (i + 1 + t) 0) * ((L.getD (i + 1 + t) []).getD i 0))) w.heap.size) w.heap.size), .mov 7 (.row 26 2 (t + 1) (CE 2 (((bhL x L i (t + 1)).map ZN).map (· w.heap.size)))), .ref 15] [.inr 0, .inr 1, .inl 16] [.inr 1, .inr 2, .inr 3] S5 ?_ ?_
  ·repeat' refine And.intro ?_ ?_
   ·trivial
   ·exact yct rfl wA (Or.inl rfl) (by kernel_rfl) rfl
   ·exact mS 2 1
   ·exact mS 1 8
   ·exact yae rfl wA rfl yby (oO 1 19) (oO 2 20) (yhj (by omega)) rfl
   ·exact yag rfl wA rfl ycp (by decide) (ya5 (by decide) ybc) (oO 3 21) rfl
   ·exact ya2 rfl wA rfl (k := 0) rfl (by kernel_rfl) rfl (fun ρ w b h => yed ρ _ _ w b 0 h)
   ·exact yav rfl wA rfl (oO 5 23) (k := 0) rfl (by kernel_rfl) rfl (fun ρ w b u h1 h2 h3 => ploadS rfl yet ρ _ _ w b u h1 h2 h3)
   ·exact mS 1 8
   ·exact yae rfl wA rfl ya8 (oO 6 24) (oO 7 25) (by have q := yda (A := L) (K := K) (k := i + 1 + t) (by omega); rw [hrj] at q; exact q) rfl
   ·exact yag rfl wA rfl ya9 (by decide) yb3 (oO 8 26) rfl
   ·exact mS 3 2
   ·exact yae rfl wA rfl yby (oO 9 27) (oO 10 28) (yhj (by omega)) rfl
   ·exact yag rfl wA rfl ycp (by decide) (ya5 (by decide) ybc) (oO 11 29) rfl
   ·exact cc2 wA (qO 4 22 rfl) (qO 12 30 rfl) (ya1 _) (fun w u v h1 h2 => ygl (by omega) w u v ((fun _ _ h => h) _ _ h1) ((fun _ _ h => h) _ _ h2))
   ·exact ygp rfl wA rfl yig (oO 13 31) (ya5 (by decide) ya0) rfl
   ·exact yfy rfl wA rfl (oO 0 18) (k := 2) rfl (by kernel_rfl) ((oO 14 32).imp yhk) ykx Tryz.underlying39 (by decide) ⟨by unfold maxLen; omega, by omega⟩ rfl (fun xs ys w h1 h2 => by rw [bhL, List.map_append, List.map_append]; exact ydy _ _ _ h1 h2)
   ·exact yea 15 rfl wA (Or.inr rfl) (by kernel_rfl) rfl rfl
  intro B6 a6 W6 (S6 : Sta w 36 [(3, (yfo nD nL K D L)), (6, (yf7)), (7, (.row 26 2 (t + 1) (CE 2 (((bhL x L i (t + 1)).map ZN).map (· w.heap.size)))))] [(8, iV ((i + 1 + t : Nat) : Int)), (1, Vv n x K), (2, iV (i : Nat))] _ _ _)
  refine inBlkN (thenN ?_)
  refine wr [.val (iV ((i + 1 + t : Nat) : Int)), .val (Is (.int .i64 ((i + 1 + (t + 1) : Nat) : Int))), .val (Is (.int .i64 ((i + 1 + (t + 1) : Nat) : Int)))] [.inr 0, .inr 1, .inr 2] [.inl 2, .inr 1, .inr 2] S6 ?_ ?_
  ·apply jj3
   ·exact mS 0 8
   ·exact ya3 wA (oO 0 16) (yaa _)
   ·exact mO 1 17
  intro B7 a7 W7 (S7 : Sta w 36 [(3, (yfo nD nL K D L)), (6, (yf7)), (7, (.row 26 2 (t + 1) (CE 2 (((bhL x L i (t + 1)).map ZN).map (· w.heap.size)))))] [(8, Is (.int .i64 ((i + 1 + (t + 1) : Nat) : Int))), (1, Vv n x K), (2, iV (i : Nat))] _ _ _)
  refine thenN ?_
  exact ⟨t + 1, ⟨by omega, B7, S7.sub [0, 1, 2] [0, 1, 2]⟩, by omega⟩
 ·have et : t = n - 1 - i := by omega
  rw [et] at S4
  refine wp_seq ?_
  refine wq [.val (Is (.int .i64 ((i + 1 + (n - 1 - i) : Nat) : Int))), .val (Vv n x K), .val (iV (n : Nat)), kF] [.inr 0, .inr 1, .inr 2] [.inl 3, .inr 0, .inr 1, .inr 2] S4 ?_ ?_
  ·apply jj4
   ·exact mS 0 8
   ·exact mS 1 1
   ·exact yal rfl wA rfl (oO 1 13) yaw Tryz.underlying39 rfl
   ·exact yaz wA (oO 0 12) (oO 2 14)
  intro B5 a5 W5 (S5 : Sta w 36 [(3, (yfo nD nL K D L)), (6, (yf7)), (7, (.row 26 2 ((n - 1 - i)) (CE 2 (((bhL x L i (n - 1 - i)).map ZN).map (· w.heap.size)))))] [(15, bF), (8, Is (.int .i64 ((i + 1 + (n - 1 - i) : Nat) : Int))), (1, Vv n x K), (2, iV (i : Nat))] _ _ _)
  refine wp_cond_false (S5.bool 0 15 rfl) (wp_exit (thenX (thenX (inBlkE (thenN ?_)))))
  obtain ⟨B6, S6⟩ : ∃ Bq, Sta w 36 [(3, (yfo nD nL K D L)), (6, (yf7))] [(7, ((VN ((n - 1 - i)) (bhL x L i (n - 1 - i))) w.heap.size)), (15, bF), (8, Is (.int .i64 ((i + 1 + (n - 1 - i) : Nat) : Int))), (1, Vv n x K), (2, iV (i : Nat))] Bq a5 W5 := ⟨_, S5.freeze 2 rfl (by simp) (fun v w' xs ho hc => ydi (by decide) v w' xs ho hc)⟩
  obtain ⟨a6, W6, e1, e2⟩ : ∃ a W, a5 = a ∧ W5 = W := ⟨_, _, rfl, rfl⟩
  rw [e1, e2] at S6 ⊢
  clear e1 e2
  refine wq [.val ((VN ((n - 1 - i)) (bhL x L i (n - 1 - i))) w.heap.size), .val ((ZN (sumZ (bhL x L i (n - 1 - i)))) w.heap.size), .put (.inl 6) (.box 26 ((ZN (sumZ (bhL x L i (n - 1 - i)))) w.heap.size))] [.inr 0, .inr 1] [.inr 0, .inr 2, .inr 3, .inr 4] S6 ?_ ?_
  ·apply jj3
   ·exact mS 0 7
   ·exact ch1 wA (qO 0 34 rfl) (ya1 _) (h_zsum (by omega) (ykq x L i _) (fun j z hz => Nat.le_trans (bhL_dl hdx hmdl i _ j z hz) (by omega)))
   ·exact ya7 rfl wA rfl (k := 1) rfl (by kernel_rfl) (oO 1 35) (yaf yaj ycn ya0) rfl
  intro B7 a7 W7 (S7 : Sta w 36 [(3, (yfo nD nL K D L)), (6, (.box 26 ((ZN (sumZ (bhL x L i (n - 1 - i)))) w.heap.size)))] [(7, ((VN ((n - 1 - i)) (bhL x L i (n - 1 - i))) w.heap.size)), (8, Is (.int .i64 ((i + 1 + (n - 1 - i) : Nat) : Int))), (1, Vv n x K), (2, iV (i : Nat))] _ _ _)
  refine wp_ret ?_
  exact ybe S7 rfl (ybb S7 1 6 rfl yaj ya0)
end Go.Proofs.YtdiagoaakadniaaGreat
