import Derived.Test.YtkiholgfamfgeaaGreatGsD
import Derived.Test.YtkiholgfamfgeaaGreatRsK
import Derived.Test.YtkiholgfamfgeaaGreatRRProd
import Derived.Test.YtkiholgfamfgeaaGreatGsA
import Derived.Test.YtkiholgfamfgeaaGreatGArgs
/-
  Rationals by any quotient that they are: sums, products; what the norm by data comes to.
-/
namespace Go.Proofs.YtkiholgfamfgeaaGreat
open Go Go.RowKit Nt
set_option linter.unusedSimpArgs false
set_option linter.unusedVariables false
set_option maxRecDepth 20000

/-- The rational P by Q, in new memory, in lowest terms. -/
def QQ (P : Int) (Q : Nat) : Nat → Pr := RN (nR P Q) (dR P Q)
theorem fresh_qq (P : Int) (Q : Nat) : Fresh (QQ P Q) := fresh_rn _ _
theorem qq_eq {P P' : Int} {Q Q' : Nat} (hQ : Q ≠ 0) (hQ' : Q' ≠ 0) (h : P * (Q' : Int) = P' * (Q : Int)) : QQ P Q = QQ P' Q' := by
  obtain ⟨a, b⟩ := low_one hQ hQ' h
  unfold QQ
  rw [a, b]
theorem qq_1 (A : Int) : RN A 1 = QQ A 1 := by
  unfold QQ nR dR
  rw [Nat.gcd_one_right, Nat.div_one, Nat.div_one]
  congr 1
  unfold sg ng
  by_cases h : A < 0
  · simp [h]; omega
  · simp [h]; omega
theorem shp_qq {P : Int} {Q lo : Nat} : Shp 4 (QQ P Q lo) := shp_pr shp_zn shp_zn
theorem qq_rv {P : Int} {Q k lo : Nat} (h : (digs P.natAbs).length ≤ k) (h' : (digs Q).length ≤ k) : ∀ v w, QQ P Q lo v w → Rv (nR P Q) ((dR P Q : Nat) : Int) k k v w := rn_rv (nR_len h) (dR_len h')
theorem q_cross {P P' : Int} {Q Q' : Nat} : (nR P Q * (dR P' Q' : Int) + nR P' Q' * (dR P Q : Int)) * ((Q * Q' : Nat) : Int) = (P * (Q' : Int) + P' * (Q : Int)) * ((dR P Q * dR P' Q' : Nat) : Int) := by
  have e1 := nR_mul P Q
  have e2 := nR_mul P' Q'
  rw [Int.natCast_mul, Int.natCast_mul]
  generalize nR P Q = n at *
  generalize nR P' Q' = n' at *
  generalize (dR P Q : Int) = d at *
  generalize (dR P' Q' : Int) = d' at *
  generalize (Q : Int) = q at *
  generalize (Q' : Int) = q' at *
  grind
theorem q_crossm {P P' : Int} {Q Q' : Nat} : (nR P Q * nR P' Q') * ((Q * Q' : Nat) : Int) = (P * P') * ((dR P Q * dR P' Q' : Nat) : Int) := by
  have e1 := nR_mul P Q
  have e2 := nR_mul P' Q'
  rw [Int.natCast_mul, Int.natCast_mul]
  generalize nR P Q = n at *
  generalize nR P' Q' = n' at *
  generalize (dR P Q : Int) = d at *
  generalize (dR P' Q' : Int) = d' at *
  generalize (Q : Int) = q at *
  generalize (Q' : Int) = q' at *
  grind
theorem q_radd {P P' : Int} {Q Q' k k' lo lo' : Nat} (hQ : Q ≠ 0) (hQ' : Q' ≠ 0) (b1 : (digs P.natAbs).length ≤ k) (b2 : (digs Q).length ≤ k) (b3 : (digs P'.natAbs).length ≤ k') (b4 : (digs Q').length ≤ k') (hk : k ≤ 8388608) (hk' : k' ≤ 8388608) :
    ∀ w u v, QQ P Q lo u w → QQ P' Q' lo' v w → Calls Tryz.prog 33 #[u, v] w (Gives (QQ (P * (Q' : Int) + P' * (Q : Int)) (Q * Q')) w) := fun w u v h h' => by
  have := g_rradd (dR_ne hQ) (dR_ne hQ') hk hk hk' hk' w u v (qq_rv b1 b2 u w h) (qq_rv b3 b4 v w h')
  exact Gives.cast this (qq_eq (Nat.mul_ne_zero (dR_ne hQ) (dR_ne hQ')) (Nat.mul_ne_zero hQ hQ') q_cross)
theorem q_add {P P' : Int} {Q Q' k k' lo lo' : Nat} (hQ : Q ≠ 0) (hQ' : Q' ≠ 0) (b1 : (digs P.natAbs).length ≤ k) (b2 : (digs Q).length ≤ k) (b3 : (digs P'.natAbs).length ≤ k') (b4 : (digs Q').length ≤ k') (hk : k ≤ 8388608) (hk' : k' ≤ 8388608) :
    ∀ w u v, QQ P Q lo u w → QQ P' Q' lo' v w → Calls Tryz.prog 32 #[u, v] w (Gives (TWO (QQ (P * (Q' : Int) + P' * (Q : Int)) (Q * Q')) (IS (.int .i64 0))) w) := fun w u v h h' => by
  have := g_ratadd (dR_ne hQ) (dR_ne hQ') hk hk hk' hk' w u v (qq_rv b1 b2 u w h) (qq_rv b3 b4 v w h')
  exact Gives.cast this (congrArg (fun q => TWO q (IS (.int .i64 0))) (qq_eq (Nat.mul_ne_zero (dR_ne hQ) (dR_ne hQ')) (Nat.mul_ne_zero hQ hQ') q_cross))
theorem q_rmul {P P' : Int} {Q Q' k k' lo lo' : Nat} (hQ : Q ≠ 0) (hQ' : Q' ≠ 0) (b1 : (digs P.natAbs).length ≤ k) (b2 : (digs Q).length ≤ k) (b3 : (digs P'.natAbs).length ≤ k') (b4 : (digs Q').length ≤ k') (hk : k ≤ 8388608) (hk' : k' ≤ 8388608) :
    ∀ w u v, QQ P Q lo u w → QQ P' Q' lo' v w → Calls Tryz.prog 35 #[u, v] w (Gives (QQ (P * P') (Q * Q')) w) := fun w u v h h' => by
  have hD := dR_ne (X := P) hQ
  have hM := dR_ne (X := P') hQ'
  have r1 := qq_rv b1 b2 u w h
  have r2 := qq_rv b3 b4 v w h'
  have key : Calls Tryz.prog 35 #[u, v] w (Gives (RN (nR (nR P Q * nR P' Q') (dR P Q * dR P' Q')) (dR (nR P Q * nR P' Q') (dR P Q * dR P' Q'))) w) := by
    generalize nR P Q = A at *
    generalize nR P' Q' = N at *
    generalize dR P Q = D at *
    generalize dR P' Q' = M at *
    obtain ⟨x0, x1, y0, y1, rfl, ⟨s, p, n, c, xs, ea, k1, rfl, hn⟩, ⟨t, q, m, d, ys, eb, k2, eD, hm⟩⟩ := r1
    obtain ⟨z0, z1, u0, u1, rfl, ⟨s', p', n', c', xs', ea', k3, rfl, hn'⟩, ⟨t', q', m', d', ys', eb', k4, eM, hm'⟩⟩ := r2
    simp at ea eb ea' eb'
    obtain ⟨rfl, rfl⟩ := ea
    obtain ⟨rfl, rfl⟩ := eb
    obtain ⟨rfl, rfl⟩ := ea'
    obtain ⟨rfl, rfl⟩ := eb'
    obtain ⟨rfl, rfl⟩ := zv_pos eD hD
    obtain ⟨rfl, rfl⟩ := zv_pos eM hM
    exact rt_gives (rrmul_c w s p n c xs q m d ys s' p' n' c' xs' q' m' d' ys' k1 k2 k3 k4 hD hM (by omega) (by omega) (by omega) (by omega))
  exact Gives.cast key (qq_eq (Nat.mul_ne_zero hD hM) (Nat.mul_ne_zero hQ hQ') q_crossm)

/-! The norm by data. -/
def dN (D : List Int) (i : Nat) : Nat := (D.getD i 0).toNat
theorem dN_eq {D : List Int} {L : List (List Int)} (g : Good D L) {i : Nat} (hi : i < D.length) : D.getD i 0 = (dN D i : Int) ∧ dN D i ≠ 0 := by
  have := g.d i hi
  unfold dN
  omega
/-- What lies behind i, number by number. -/
def bhL (x : List Int) (L : List (List Int)) (i : Nat) : Nat → List Int
  | 0 => []
  | t + 1 => bhL x L i t ++ [x.getD (i + 1 + t) 0 * (L.getD (i + 1 + t) []).getD i 0]
theorem bhL_len (x : List Int) (L : List (List Int)) (i : Nat) : ∀ t, (bhL x L i t).length = t
  | 0 => rfl
  | t + 1 => by simp [bhL, bhL_len x L i t]
/-- D (i + 1) times how often the row i is in the sum, the first t behind it with it. -/
def nmT (D x : List Int) (L : List (List Int)) (i t : Nat) : Int := x.getD i 0 * D.getD (i + 1) 0 + sumZ (bhL x L i t)
def nmS (D x : List Int) (L : List (List Int)) (n i : Nat) : Int := nmT D x L i (n - 1 - i)
def nmQ (D : List Int) : Nat → Nat
  | 0 => 1
  | k + 1 => nmQ D k * (dN D k * dN D (k + 1))
def nmP (D x : List Int) (L : List (List Int)) (n : Nat) : Nat → Int
  | 0 => 0
  | k + 1 => nmP D x L n k * ((dN D k * dN D (k + 1) : Nat) : Int) + nmS D x L n k * nmS D x L n k * (nmQ D k : Int)
theorem nmQ_ne {D : List Int} {L : List (List Int)} (g : Good D L) : ∀ k, k ≤ L.length → nmQ D k ≠ 0
  | 0, _ => Nat.one_ne_zero
  | k + 1, h => Nat.mul_ne_zero (nmQ_ne g k (by omega)) (Nat.mul_ne_zero (dN_eq g (by have := g.len; omega)).2 (dN_eq g (by have := g.len; omega)).2)
theorem nmT_succ (D x : List Int) (L : List (List Int)) (i t : Nat) : nmT D x L i (t + 1) = nmT D x L i t + x.getD (i + 1 + t) 0 * (L.getD (i + 1 + t) []).getD i 0 := by
  unfold nmT
  rw [bhL, sumZ_append]
  simp only [sumZ]
  omega
/-! How long these are. -/
theorem mv_mdl {n k : Nat} {A : List (List Int)} {u : Value} {w : World} (h : Mv n A k u w) : Mdl A k := fun i r hr => by
  obtain ⟨p, c, _, _, _, hall⟩ := h
  obtain ⟨b, o, v, _, _, _, hv⟩ := hall i (Vv r.length r k) (by rw [List.getElem?_map, hr]; rfl)
  exact vv_dl hv
theorem sf_mdl {nD nL K : Nat} {D : List Int} {L : List (List Int)} {u : Value} {w : World} (h : SF [Vv nD D K, Mv nL L K] u w) : Mdl L K := by
  obtain ⟨cs, _, _, _, hp⟩ := h
  obtain ⟨v, _, hv⟩ := hp 1 _ rfl
  exact mv_mdl hv
theorem mdl_getD {L : List (List Int)} {K : Nat} (h : Mdl L K) (i : Nat) : Dl (L.getD i []) K := by
  rw [List.getD_eq_getElem?_getD]
  cases e : L[i]? with
  | none => exact fun j z hz => by simp at hz
  | some r => exact h i r e
def wtD (D : List Int) : Nat → Nat
  | 0 => 0
  | k + 1 => wtD D k + (digs (D.getD k 0).natAbs).length
theorem bhL_dl {x : List Int} {L : List (List Int)} {K : Nat} (hx : Dl x K) (hL : Mdl L K) (i : Nat) : ∀ t, Dl (bhL x L i t) (2 * K)
  | 0 => fun j z h => by simp [bhL] at h
  | t + 1 => fun j z h => by
    have hl := bhL_len x L i t
    rcases Nat.lt_or_ge j t with h1 | h1
    · rw [bhL, List.getElem?_append_left (by omega)] at h
      exact bhL_dl hx hL i t j z h
    · rw [bhL, List.getElem?_append_right (by omega)] at h
      cases hj : j - (bhL x L i t).length with
      | zero =>
        rw [hj] at h
        simp only [List.getElem?_cons_zero, Option.some.injEq] at h
        rw [← h, Int.natAbs_mul]
        exact Nat.le_trans (digs_mul_len (dl_getD hx _) (dl_getD (mdl_getD hL _) _)) (by omega)
      | succ s => rw [hj] at h; simp at h
theorem nmT_dl {D x : List Int} {L : List (List Int)} {K : Nat} (hD : Dl D K) (hx : Dl x K) (hL : Mdl L K) (i t : Nat) : (digs (nmT D x L i t).natAbs).length ≤ 2 * K + t + 1 := by
  have h1 : (digs (x.getD i 0 * D.getD (i + 1) 0).natAbs).length ≤ 2 * K + t := by
    rw [Int.natAbs_mul]
    exact Nat.le_trans (digs_mul_len (dl_getD hx _) (dl_getD hD _)) (by omega)
  have h2 := sumZ_len (bhL_dl hx hL i t) t
  rw [List.take_of_length_le (by rw [bhL_len]; omega)] at h2
  exact Nat.le_trans (digs_length_mono (Int.natAbs_add_le _ _)) (digs_add_len h1 h2)
theorem dN_dl {D : List Int} {L : List (List Int)} (g : Good D L) {i : Nat} (hi : i < D.length) : (digs (dN D i)).length = (digs (D.getD i 0).natAbs).length := by
  obtain ⟨h, _⟩ := dN_eq g hi
  rw [h]
  rfl
theorem nmQ_dl {D : List Int} {L : List (List Int)} (g : Good D L) : ∀ k, k ≤ L.length → (digs (nmQ D k)).length ≤ 1 + wtD D k + wtD D (k + 1)
  | 0, _ => Nat.le_trans (digs_length_le (k := 1) (show (1 : Nat) < 4294967296 ^ 1 by decide)) (by omega)
  | k + 1, h => by
    have hl := g.len
    have h1 := nmQ_dl g k (by omega)
    have h2 : (digs (dN D k * dN D (k + 1))).length ≤ (digs (D.getD k 0).natAbs).length + (digs (D.getD (k + 1) 0).natAbs).length := by
      rw [← dN_dl g (i := k) (by omega), ← dN_dl g (i := k + 1) (by omega)]
      exact digs_mul_len (Nat.le_refl _) (Nat.le_refl _)
    refine Nat.le_trans (digs_mul_len h1 h2) ?_
    simp only [wtD]
    omega
theorem nmP_dl {D x : List Int} {L : List (List Int)} {n S : Nat} (g : Good D L) (hS : ∀ i, i < n → (digs (nmS D x L n i).natAbs).length ≤ S) (hn : n = L.length) : ∀ k, k ≤ n → (digs (nmP D x L n k).natAbs).length ≤ 2 * S + 1 + wtD D k + wtD D (k + 1) + k
  | 0, _ => by
    have : (nmP D x L n 0).natAbs = 0 := rfl
    rw [this, digs_zero]
    exact Nat.zero_le _
  | k + 1, h => by
    have hl := g.len
    have h1 := nmP_dl g hS hn k (by omega)
    have h3 := nmQ_dl g k (by omega)
    have h2 : (digs (dN D k * dN D (k + 1))).length ≤ (digs (D.getD k 0).natAbs).length + (digs (D.getD (k + 1) 0).natAbs).length := by
      rw [← dN_dl g (i := k) (by omega), ← dN_dl g (i := k + 1) (by omega)]
      exact digs_mul_len (Nat.le_refl _) (Nat.le_refl _)
    have a1 : (digs (nmP D x L n k * ((dN D k * dN D (k + 1) : Nat) : Int)).natAbs).length ≤ 2 * S + 1 + wtD D (k + 1) + wtD D (k + 2) + k := by
      rw [Int.natAbs_mul, Int.natAbs_natCast]
      refine Nat.le_trans (digs_mul_len h1 h2) ?_
      simp only [wtD]
      omega
    have a2 : (digs (nmS D x L n k * nmS D x L n k * (nmQ D k : Int)).natAbs).length ≤ 2 * S + 1 + wtD D (k + 1) + wtD D (k + 2) + k := by
      rw [Int.natAbs_mul, Int.natAbs_mul, Int.natAbs_natCast]
      refine Nat.le_trans (digs_mul_len (digs_mul_len (hS k (by omega)) (hS k (by omega))) h3) ?_
      simp only [wtD]
      omega
    exact Nat.le_trans (digs_length_mono (Int.natAbs_add_le _ _)) (digs_add_len a1 a2)
theorem wtD_mono (D : List Int) {a b : Nat} (h : a ≤ b) : wtD D a ≤ wtD D b := by
  induction h with
  | refl => exact Nat.le_refl _
  | step h ih => simp only [wtD]; omega
/-- One step of the document's coefficient. -/
theorem c_step {S l x : Int} {d : Nat} (hd : d ≠ 0) : QQ (S * ((d * 1 : Nat) : Int) + l * x * (d : Int)) (d * (d * 1)) = QQ (S + x * l) d := by
  refine qq_eq (Nat.mul_ne_zero hd (by omega)) hd ?_
  simp only [Nat.mul_one, Int.natCast_mul]
  generalize (d : Int) = q
  grind
theorem c_start {x : Int} {D : Int} {d : Nat} (h : D = (d : Int)) (hd : d ≠ 0) : QQ x 1 = QQ (x * D + 0) d := by
  refine qq_eq (by decide) hd ?_
  rw [h]
  simp only [Int.natCast_one]
  generalize (d : Int) = q
  grind
theorem part_eq {S : Int} {d d' : Nat} (hd : d ≠ 0) (hd' : d' ≠ 0) : QQ (S * S * ((d' : Nat) : Int)) (d' * d' * d) = QQ (S * S) (d * d') := by
  refine qq_eq (Nat.mul_ne_zero (Nat.mul_ne_zero hd' hd') hd) (Nat.mul_ne_zero hd hd') ?_
  simp only [Int.natCast_mul]
  generalize (d : Int) = q
  generalize (d' : Int) = q'
  grind
end Go.Proofs.YtkiholgfamfgeaaGreat

/-
  gso.behind, gso.Norm, what the document says of it.
-/
namespace Go.Proofs.YtkiholgfamfgeaaGreat
open Go Go.RowKit Nt
set_option linter.unusedSimpArgs false
set_option linter.unusedVariables false
set_option maxRecDepth 20000

set_option maxHeartbeats 2000000 in
theorem behind_w (w : World) (u v : Value) (nD nL n K : Nat) (D x : List Int) (L : List (List Int)) (h : Hs w (SF [Vv nD D K, Mv nL L K]) u) (hv : Hs w (Vv n x K) v) (hD : nD ≤ 1048576) (hL : nL ≤ 1048576) (hn : n ≤ 1048576) (hK : K ≤ 1048576) (lD : D.length = nD) (lL : L.length = nL) (lx : x.length = n) (i : Nat) (en : nL = n) (hi : i < n) (hr : ∀ j, j < nL → (L.getD j []).length = j) :
    Calls Tryz.prog 31 #[u, v, .int .i64 (i : Nat)] w (Gives (ZN (sumZ (bhL x L i (n - 1 - i)))) w) := by
  have hmdl := sf_mdl h.now
  have hdx := vv_dl hv.now
  refine calls_sta (sl := [(0, (SF [(Vv nD D K), (Mv nL L K)])), (1, (Vv n x K)), (2, (iV (i : Nat)))]) Tryz.func31 rfl Tryz.ntmps31 (by simp) (args_cons rfl (h) (args_cons rfl (hv) (args_cons rfl (is_has _) args_nil))) ?_
  intro a0 S0
  refine wp_stmt_seq [.new (.box 25 (SF [(Vv nD D K), (Mv nL L K)])), .new (.box 28 zI)] [.inl 0, .inl 1] [.inr 1, .inr 2] follows S0 rfl (by kernel_rfl) ?_ ?_
  · refine ⟨⟨trivial, ?_⟩, ?_⟩
    · exact owe_box rfl wA rfl (oS 0 0) rfl (fun ρ w h => box_gso shp_sf2 ρ _ _ w h)
    · exact owe_new rfl wA rfl rfl (fun ρ w => alloc_int ρ _ w)
  intro B1 a1 W1 (S1 : Sta w 36 [(3, (.box 25 (SF [(Vv nD D K), (Mv nL L K)]))), (6, (.box 28 zI))] [(1, Vv n x K), (2, iV (i : Nat))] _ _ _)
  refine wp_stmt_seq [.new (.row 28 2 0 (CE 2 (((bhL x L i 0).map ZN).map (· w.heap.size)))), .ref 0] [.inr 0, .inr 1, .inl 1] [.inr 0, .inr 1] follows S1 rfl (by kernel_rfl) ?_ ?_
  · refine ⟨⟨trivial, ?_⟩, ?_⟩
    · exact owe_newb0 rfl wA rfl bld0_int ce_nil rfl
    · exact owe_ref 0 rfl wA (Or.inr rfl) (by kernel_rfl) rfl rfl
  intro B2 a2 W2 (S2 : Sta w 36 [(3, (.box 25 (SF [(Vv nD D K), (Mv nL L K)]))), (6, (.box 28 zI)), (7, (.row 28 2 0 (CE 2 (((bhL x L i 0).map ZN).map (· w.heap.size)))))] [(1, Vv n x K), (2, iV (i : Nat))] _ _ _)
  refine wp_seq ?_
  refine wp_stmt_seq [.val (iV (i : Nat)), .val (iV ((i + 1 + 0 : Nat) : Int)), .val (iV ((i + 1 + 0 : Nat) : Int))] [.inr 0, .inr 1, .inr 2] [.inl 2, .inr 0, .inr 1] follows S2 rfl (by kernel_rfl) ?_ ?_
  · refine ⟨⟨⟨trivial, ?_⟩, ?_⟩, ?_⟩
    · exact mS 1 2
    · exact b_add_int wA (oO 0 10) (opnd_const _)
    · exact mO 1 11
  intro B3 a3 W3 (S3 : Sta w 36 [(3, (.box 25 (SF [(Vv nD D K), (Mv nL L K)]))), (6, (.box 28 zI)), (7, (.row 28 2 0 (CE 2 (((bhL x L i 0).map ZN).map (· w.heap.size)))))] [(8, iV ((i + 1 + 0 : Nat) : Int)), (1, Vv n x K), (2, iV (i : Nat))] _ _ _)
  refine wp_block ?_
  refine wp_loop_ghost (fun (t : Nat) a W => (t ≤ n - 1 - i) ∧ ∃ Bq, Sta w 36 [(3, (.box 25 (SF [(Vv nD D K), (Mv nL L K)]))), (6, (.box 28 zI)), (7, (.row 28 2 t (CE 2 (((bhL x L i t).map ZN).map (· w.heap.size)))))] [(8, iV ((i + 1 + t : Nat) : Int)), (1, Vv n x K), (2, iV (i : Nat))] Bq a W) (fun (t : Nat) => n - 1 - i - t) ?_ 0 ⟨Nat.zero_le _, B3, S3.sub [0, 1, 2] [0, 1, 2]⟩
  rintro t a4 W4 ⟨hcond, B4, S4⟩
  by_cases hlt : t < n - 1 - i
  · have hrj := hr (i + 1 + t) (by omega)
    refine wp_seq ?_
    refine wp_stmt_seq [.val (iV ((i + 1 + t : Nat) : Int)), .val (Vv n x K), .val (iV (n : Nat)), kT] [.inr 0, .inr 1, .inr 2] [.inl 3, .inr 0, .inr 1, .inr 2] follows S4 rfl (by kernel_rfl) ?_ ?_
    · refine ⟨⟨⟨⟨trivial, ?_⟩, ?_⟩, ?_⟩, ?_⟩
      · exact mS 0 8
      · exact mS 1 1
      · exact owe_len rfl wA rfl (oO 1 13) ar_len Tryz.underlying22 rfl
      · exact b_lss_int_t wA (oO 0 12) (oO 2 14)
    intro B5 a5 W5 (S5 : Sta w 36 [(3, (.box 25 (SF [(Vv nD D K), (Mv nL L K)]))), (6, (.box 28 zI)), (7, (.row 28 2 t (CE 2 (((bhL x L i t).map ZN).map (· w.heap.size)))))] [(15, bT), (8, iV ((i + 1 + t : Nat) : Int)), (1, Vv n x K), (2, iV (i : Nat))] _ _ _)
    refine wp_cond_true (S5.bool 0 15 rfl) ?_
    refine wp_skip ?_
    refine thenN ?_
    refine wp_seq ?_
    refine wp_block ?_
    refine wp_stmt [.val (Is (a5.eval (.tmp 7))), .val (Vv n x K), .val (iV ((i + 1 + t : Nat) : Int)), .val (AtE 2 (Zv (x.getD (i + 1 + t) 0) K)), .val (Zv (x.getD (i + 1 + t) 0) K), .val (Part a5 3 1), .val (Mv nL L K), .val (iV ((i + 1 + t : Nat) : Int)), .val (AtE 1 (Vv (i + 1 + t) (L.getD (i + 1 + t) []) K)), .val (Vv (i + 1 + t) (L.getD (i + 1 + t) []) K), .val (iV (i : Nat)), .val (AtE 2 (Zv ((L.getD (i + 1 + t) []).getD i 0) K)), .val (Zv ((L.getD (i + 1 + t) []).getD i 0) K), .val ((ZN ((x.getD (i + 1 + t) 0) * ((L.getD (i + 1 + t) []).getD i 0))) w.heap.size), .val (Sng 28 2 ((ZN ((x.getD (i + 1 + t) 0) * ((L.getD (i + 1 + t) []).getD i 0))) w.heap.size) w.heap.size), .mov 7 (.row 28 2 (t + 1) (CE 2 (((bhL x L i (t + 1)).map ZN).map (· w.heap.size)))), .ref 15] [.inr 0, .inr 1, .inl 16] [.inr 1, .inr 2, .inr 3] follows S5 rfl (by kernel_rfl) ?_ ?_
    · repeat' refine And.intro ?_ ?_
      · trivial
      · exact owe_same rfl wA (Or.inl rfl) (by kernel_rfl) rfl
      · exact mS 2 1
      · exact mS 1 8
      · exact owe_aindex rfl wA rfl idx_ints (oO 1 19) (oO 2 20) (zv_at (by omega)) rfl
      · exact owe_aload rfl wA rfl ldr_int (by decide) (cel_shp (by decide) shp_zv) (oO 3 21) rfl
      · exact owe_part rfl wA rfl (k := 0) rfl (by kernel_rfl) rfl (fun ρ w b h => part_gso1 ρ _ _ w b 0 h)
      · exact owe_pload rfl wA rfl (oO 5 23) (k := 0) rfl (by kernel_rfl) rfl (fun ρ w b u h1 h2 h3 => ploadS rfl load1_mat ρ _ _ w b u h1 h2 h3)
      · exact mS 1 8
      · exact owe_aindex rfl wA rfl idx_rows (oO 6 24) (oO 7 25) (by have q := vv_at (A := L) (K := K) (k := i + 1 + t) (by omega); rw [hrj] at q; exact q) rfl
      · exact owe_aload rfl wA rfl ldr_row1 (by decide) cel_vv (oO 8 26) rfl
      · exact mS 3 2
      · exact owe_aindex rfl wA rfl idx_ints (oO 9 27) (oO 10 28) (zv_at (by omega)) rfl
      · exact owe_aload rfl wA rfl ldr_int (by decide) (cel_shp (by decide) shp_zv) (oO 11 29) rfl
      · exact cc2 wA (qO 4 22 rfl) (qO 12 30 rfl) (fresh_zn _) (fun w u v h1 h2 => g_zmul (by omega) w u v ((fun _ _ h => h) _ _ h1) ((fun _ _ h => h) _ _ h2))
      · exact owe_b1 rfl wA rfl bld_int (oO 13 31) (cel_shp (by decide) shp_zn) rfl
      · exact owe_append rfl wA rfl (oO 0 18) (k := 2) rfl (by kernel_rfl) ((oO 14 32).imp b1_src) einf_int Tryz.underlying22 (by decide) ⟨by unfold maxLen; omega, by omega⟩ rfl (fun xs ys w h1 h2 => by rw [bhL, List.map_append, List.map_append]; exact ce_append _ _ _ h1 h2)
      · exact owe_ref 15 rfl wA (Or.inr rfl) (by kernel_rfl) rfl rfl
    intro B6 a6 W6 (S6 : Sta w 36 [(3, (.box 25 (SF [(Vv nD D K), (Mv nL L K)]))), (6, (.box 28 zI)), (7, (.row 28 2 (t + 1) (CE 2 (((bhL x L i (t + 1)).map ZN).map (· w.heap.size)))))] [(8, iV ((i + 1 + t : Nat) : Int)), (1, Vv n x K), (2, iV (i : Nat))] _ _ _)
    refine inBlkN ?_
    refine thenN ?_
    refine wp_stmt [.val (iV ((i + 1 + t : Nat) : Int)), .val (Is (.int .i64 ((i + 1 + (t + 1) : Nat) : Int))), .val (Is (.int .i64 ((i + 1 + (t + 1) : Nat) : Int)))] [.inr 0, .inr 1, .inr 2] [.inl 2, .inr 1, .inr 2] follows S6 rfl (by kernel_rfl) ?_ ?_
    · refine ⟨⟨⟨trivial, ?_⟩, ?_⟩, ?_⟩
      · exact mS 0 8
      · exact b_add_int wA (oO 0 16) (opnd_const _)
      · exact mO 1 17
    intro B7 a7 W7 (S7 : Sta w 36 [(3, (.box 25 (SF [(Vv nD D K), (Mv nL L K)]))), (6, (.box 28 zI)), (7, (.row 28 2 (t + 1) (CE 2 (((bhL x L i (t + 1)).map ZN).map (· w.heap.size)))))] [(8, Is (.int .i64 ((i + 1 + (t + 1) : Nat) : Int))), (1, Vv n x K), (2, iV (i : Nat))] _ _ _)
    refine thenN ?_
    exact ⟨t + 1, ⟨by omega, B7, S7.sub [0, 1, 2] [0, 1, 2]⟩, by omega⟩
  · have et : t = n - 1 - i := by omega
    rw [et] at S4
    refine wp_seq ?_
    refine wp_stmt_seq [.val (Is (.int .i64 ((i + 1 + (n - 1 - i) : Nat) : Int))), .val (Vv n x K), .val (iV (n : Nat)), kF] [.inr 0, .inr 1, .inr 2] [.inl 3, .inr 0, .inr 1, .inr 2] follows S4 rfl (by kernel_rfl) ?_ ?_
    · refine ⟨⟨⟨⟨trivial, ?_⟩, ?_⟩, ?_⟩, ?_⟩
      · exact mS 0 8
      · exact mS 1 1
      · exact owe_len rfl wA rfl (oO 1 13) ar_len Tryz.underlying22 rfl
      · exact b_lss_int_f wA (oO 0 12) (oO 2 14)
    intro B5 a5 W5 (S5 : Sta w 36 [(3, (.box 25 (SF [(Vv nD D K), (Mv nL L K)]))), (6, (.box 28 zI)), (7, (.row 28 2 ((n - 1 - i)) (CE 2 (((bhL x L i (n - 1 - i)).map ZN).map (· w.heap.size)))))] [(15, bF), (8, Is (.int .i64 ((i + 1 + (n - 1 - i) : Nat) : Int))), (1, Vv n x K), (2, iV (i : Nat))] _ _ _)
    refine wp_cond_false (S5.bool 0 15 rfl) ?_
    refine wp_exit ?_
    refine thenX ?_
    refine thenX ?_
    refine inBlkE ?_
    refine thenN ?_
    obtain ⟨B6, S6⟩ : ∃ Bq, Sta w 36 [(3, (.box 25 (SF [(Vv nD D K), (Mv nL L K)]))), (6, (.box 28 zI))] [(7, ((VN ((n - 1 - i)) (bhL x L i (n - 1 - i))) w.heap.size)), (15, bF), (8, Is (.int .i64 ((i + 1 + (n - 1 - i) : Nat) : Int))), (1, Vv n x K), (2, iV (i : Nat))] Bq a5 W5 := ⟨_, S5.freeze 2 rfl (by simp) (fun v w' xs ho hc => row_lf (by decide) v w' xs ho hc)⟩
    obtain ⟨a6, W6, e1, e2⟩ : ∃ a W, a5 = a ∧ W5 = W := ⟨_, _, rfl, rfl⟩
    rw [e1, e2] at S6 ⊢
    clear e1 e2
    refine wp_stmt_seq [.val ((VN ((n - 1 - i)) (bhL x L i (n - 1 - i))) w.heap.size), .val ((ZN (sumZ (bhL x L i (n - 1 - i)))) w.heap.size), .put (.inl 6) (.box 28 ((ZN (sumZ (bhL x L i (n - 1 - i)))) w.heap.size))] [.inr 0, .inr 1] [.inr 0, .inr 2, .inr 3, .inr 4] follows S6 rfl (by kernel_rfl) ?_ ?_
    · refine ⟨⟨⟨trivial, ?_⟩, ?_⟩, ?_⟩
      · exact mS 0 7
      · exact ch1 wA (qO 0 34 rfl) (fresh_zn _) (h_zsum (by omega) (bhL_len x L i _) (fun j z hz => Nat.le_trans (bhL_dl hdx hmdl i _ j z hz) (by omega)))
      · exact owe_set rfl wA rfl (k := 1) rfl (by kernel_rfl) (oO 1 35) (stores_of strct_int shp_z0 shp_zn) rfl
    intro B7 a7 W7 (S7 : Sta w 36 [(3, (.box 25 (SF [(Vv nD D K), (Mv nL L K)]))), (6, (.box 28 ((ZN (sumZ (bhL x L i (n - 1 - i)))) w.heap.size)))] [(7, ((VN ((n - 1 - i)) (bhL x L i (n - 1 - i))) w.heap.size)), (8, Is (.int .i64 ((i + 1 + (n - 1 - i) : Nat) : Int))), (1, Vv n x K), (2, iV (i : Nat))] _ _ _)
    refine wp_ret ?_
    exact end_one S7 rfl (res_cell S7 1 6 rfl strct_int shp_zn)

set_option maxHeartbeats 400000 in
theorem nrm_b (w : World) (u v : Value) (nD nL n K : Nat) (D x : List Int) (L : List (List Int)) (h : Hs w (SF [Vv nD D K, Mv nL L K]) u) (hv : Hs w (Vv n x K) v) (hD : nD ≤ 1048576) (hL : nL ≤ 1048576) (hn : n ≤ 1048576) (hK : K ≤ 1048576) (lD : D.length = nD) (lL : L.length = nL) (lx : x.length = n) (g : Bad D L) :
    Calls Tryz.prog 13 #[u, v] w (Gives (TWO (IS (.agg #[.bool false, .slice none 0 0, .bool false, .slice none 0 0])) (IS (.int .i64 51))) w) := by
  refine calls_sta (sl := [(0, (SF [(Vv nD D K), (Mv nL L K)])), (1, (Vv n x K))]) Tryz.func13 rfl Tryz.ntmps13 (by simp) (args_cons rfl (h) (args_cons rfl (hv) args_nil)) ?_
  intro a0 S0
  refine wp_stmt_seq [.new (.box 25 (SF [(Vv nD D K), (Mv nL L K)])), .new (.box 30 zR), .val (iV 0)] [.inl 0, .inl 1] [.inr 1] follows S0 rfl (by kernel_rfl) ?_ ?_
  · refine ⟨⟨⟨trivial, ?_⟩, ?_⟩, ?_⟩
    · exact owe_box rfl wA rfl (oS 0 0) rfl (fun ρ w h => box_gso shp_sf2 ρ _ _ w h)
    · exact owe_new rfl wA rfl rfl (fun ρ w => alloc_rat ρ _ w)
    · exact mC
  intro B1 a1 W1 (S1 : Sta w 74 [(2, (.box 25 (SF [(Vv nD D K), (Mv nL L K)]))), (4, (.box 30 zR))] [(1, Vv n x K)] _ _ _)
  refine wp_seq ?_
  refine wp_block ?_
  refine wp_stmt_seq [.val (SF [(Vv nD D K), (Mv nL L K)]), kF, kT, kT] [.inr 0, .inr 1] [.inl 3, .inr 0] follows S1 rfl (by kernel_rfl) ?_ ?_
  · refine ⟨⟨⟨⟨trivial, ?_⟩, ?_⟩, ?_⟩, ?_⟩
    · exact lod 0 wA (loads_of strct_gso shp_sf2)
    · exact ch1 wA (qO 0 12 rfl) (fresh_is _) (fun w u h => may_f w u nD nL K D L h hD hL hK lD lL g)
    · exact b_not wA (oO 1 13)
    · exact mO 2 14
  intro B2 a2 W2 (S2 : Sta w 74 [(2, (.box 25 (SF [(Vv nD D K), (Mv nL L K)]))), (4, (.box 30 zR))] [(11, bT), (1, Vv n x K)] _ _ _)
  refine wp_cond_true (S2.bool 0 11 rfl) ?_
  refine wp_stmt_seq [.val zR, .put (.inl 4) (.box 30 zR), .val (iV 51)] [.inr 0, .inr 1] [.inl 2] follows S2 rfl (by kernel_rfl) ?_ ?_
  · refine ⟨⟨⟨trivial, ?_⟩, ?_⟩, ?_⟩
    · exact owe_build_rat rfl wA rfl rfl
    · exact owe_set rfl wA rfl (k := 1) rfl (by kernel_rfl) (oO 0 15) (stores_of strct_rat shp_r0 shp_r0) rfl
    · exact mC
  intro B3 a3 W3 (S3 : Sta w 74 [(2, (.box 25 (SF [(Vv nD D K), (Mv nL L K)]))), (4, (.box 30 zR))] [(5, iV 51)] _ _ _)
  refine wp_ret ?_
  refine inBlkR ?_
  refine thenR ?_
  exact end_two S3 rfl (res_cell S3 1 4 rfl strct_rat shp_r0) (res_tmp S3 0 5 rfl)

set_option maxHeartbeats 400000 in
theorem nrm_s (w : World) (u v : Value) (nD nL n K : Nat) (D x : List Int) (L : List (List Int)) (h : Hs w (SF [Vv nD D K, Mv nL L K]) u) (hv : Hs w (Vv n x K) v) (hD : nD ≤ 1048576) (hL : nL ≤ 1048576) (hn : n ≤ 1048576) (hK : K ≤ 1048576) (lD : D.length = nD) (lL : L.length = nL) (lx : x.length = n) (g : Good D L) (hne : n ≠ nL) :
    Calls Tryz.prog 13 #[u, v] w (Gives (TWO (IS (.agg #[.bool false, .slice none 0 0, .bool false, .slice none 0 0])) (IS (.int .i64 8))) w) := by
  refine calls_sta (sl := [(0, (SF [(Vv nD D K), (Mv nL L K)])), (1, (Vv n x K))]) Tryz.func13 rfl Tryz.ntmps13 (by simp) (args_cons rfl (h) (args_cons rfl (hv) args_nil)) ?_
  intro a0 S0
  refine wp_stmt_seq [.new (.box 25 (SF [(Vv nD D K), (Mv nL L K)])), .new (.box 30 zR), .val (iV 0)] [.inl 0, .inl 1] [.inr 1] follows S0 rfl (by kernel_rfl) ?_ ?_
  · refine ⟨⟨⟨trivial, ?_⟩, ?_⟩, ?_⟩
    · exact owe_box rfl wA rfl (oS 0 0) rfl (fun ρ w h => box_gso shp_sf2 ρ _ _ w h)
    · exact owe_new rfl wA rfl rfl (fun ρ w => alloc_rat ρ _ w)
    · exact mC
  intro B1 a1 W1 (S1 : Sta w 74 [(2, (.box 25 (SF [(Vv nD D K), (Mv nL L K)]))), (4, (.box 30 zR))] [(1, Vv n x K)] _ _ _)
  refine wp_seq ?_
  refine wp_block ?_
  refine wp_stmt_seq [.val (SF [(Vv nD D K), (Mv nL L K)]), kT, kF, kF] [.inr 0, .inr 1] [.inl 3, .inr 0] follows S1 rfl (by kernel_rfl) ?_ ?_
  · refine ⟨⟨⟨⟨trivial, ?_⟩, ?_⟩, ?_⟩, ?_⟩
    · exact lod 0 wA (loads_of strct_gso shp_sf2)
    · exact ch1 wA (qO 0 12 rfl) (fresh_is _) (fun w u h => may_t w u nD nL K D L h hD hL hK lD lL g)
    · exact b_not wA (oO 1 13)
    · exact mO 2 14
  intro B2 a2 W2 (S2 : Sta w 74 [(2, (.box 25 (SF [(Vv nD D K), (Mv nL L K)]))), (4, (.box 30 zR))] [(11, bF), (1, Vv n x K)] _ _ _)
  refine wp_cond_false (S2.bool 0 11 rfl) ?_
  refine wp_stmt_seq [.val (Vv n x K), .val (iV (n : Nat)), .val (Part a2 2 1), .val (Mv nL L K), .val (iV (nL : Nat)), kT, kT] [.inr 0, .inr 1] [.inl 6, .inr 1] follows S2 rfl (by kernel_rfl) ?_ ?_
  · repeat' refine And.intro ?_ ?_
    · trivial
    · exact mS 1 1
    · exact owe_len rfl wA rfl (oO 0 17) ar_len Tryz.underlying22 rfl
    · exact owe_part rfl wA rfl (k := 0) rfl (by kernel_rfl) rfl (fun ρ w b h => part_gso1 ρ _ _ w b 0 h)
    · exact owe_pload rfl wA rfl (oO 2 19) (k := 0) rfl (by kernel_rfl) rfl (fun ρ w b u h1 h2 h3 => ploadS rfl load1_mat ρ _ _ w b u h1 h2 h3)
    · exact owe_len rfl wA rfl (oO 3 20) ar_len Tryz.underlying23 rfl
    · exact b_neq_int_t wA (oO 1 18) (oO 4 21)
    · exact mO 5 22
  intro B3 a3 W3 (S3 : Sta w 74 [(2, (.box 25 (SF [(Vv nD D K), (Mv nL L K)]))), (4, (.box 30 zR))] [(16, bT), (1, Vv n x K)] _ _ _)
  refine wp_cond_true (S3.bool 0 16 rfl) ?_
  refine wp_stmt_seq [.val zR, .put (.inl 4) (.box 30 zR), .val (iV 8)] [.inr 0, .inr 1] [.inl 2] follows S3 rfl (by kernel_rfl) ?_ ?_
  · refine ⟨⟨⟨trivial, ?_⟩, ?_⟩, ?_⟩
    · exact owe_build_rat rfl wA rfl rfl
    · exact owe_set rfl wA rfl (k := 1) rfl (by kernel_rfl) (oO 0 23) (stores_of strct_rat shp_r0 shp_r0) rfl
    · exact mC
  intro B4 a4 W4 (S4 : Sta w 74 [(2, (.box 25 (SF [(Vv nD D K), (Mv nL L K)]))), (4, (.box 30 zR))] [(5, iV 8)] _ _ _)
  refine wp_ret ?_
  refine inBlkR ?_
  refine thenR ?_
  exact end_two S4 rfl (res_cell S4 1 4 rfl strct_rat shp_r0) (res_tmp S4 0 5 rfl)

set_option maxHeartbeats 4000000 in
theorem nrm_w (w : World) (u v : Value) (nD nL n K : Nat) (D x : List Int) (L : List (List Int)) (h : Hs w (SF [Vv nD D K, Mv nL L K]) u) (hv : Hs w (Vv n x K) v) (hD : nD ≤ 1048576) (hL : nL ≤ 1048576) (hn : n ≤ 1048576) (hK : K ≤ 1048576) (lD : D.length = nD) (lL : L.length = nL) (lx : x.length = n) (g : Good D L) (en : nL = n) (dD : Dl D K) (dx : Dl x K) (dL : Mdl L K) (hKn : K + n ≤ 1048576) (hW : wtD D (n + 1) ≤ 1048576) :
    Calls Tryz.prog 13 #[u, v] w (Gives (TWO (QQ (nmP D x L n n) (nmQ D n)) (IS (.int .i64 0))) w) := by
  have hgl := g.len
  have hT : ∀ i t, t ≤ n → (digs (nmT D x L i t).natAbs).length ≤ 2097153 := fun i t ht => Nat.le_trans (nmT_dl dD dx dL i t) (by omega)
  have hS : ∀ i, i < n → (digs (nmS D x L n i).natAbs).length ≤ 2097153 := fun i hi => hT i _ (by omega)
  have hQd : ∀ k, k ≤ n → (digs (nmQ D k)).length ≤ 2097153 := fun k hk => by have q1 := nmQ_dl g k (by omega); have q2 := wtD_mono D (show k ≤ n + 1 by omega); have q3 := wtD_mono D (show k + 1 ≤ n + 1 by omega); omega
  have hPd : ∀ k, k ≤ n → (digs (nmP D x L n k).natAbs).length ≤ 8388608 := fun k hk => by have q1 := nmP_dl (n := n) g hS (by omega) k hk; have q2 := wtD_mono D (show k ≤ n + 1 by omega); have q3 := wtD_mono D (show k + 1 ≤ n + 1 by omega); omega
  refine calls_sta (sl := [(0, (SF [(Vv nD D K), (Mv nL L K)])), (1, (Vv n x K))]) Tryz.func13 rfl Tryz.ntmps13 (by simp) (args_cons rfl (h) (args_cons rfl (hv) args_nil)) ?_
  intro a0 S0
  refine wp_stmt_seq [.new (.box 25 (SF [(Vv nD D K), (Mv nL L K)])), .new (.box 30 zR), .val (iV 0)] [.inl 0, .inl 1] [.inr 1] follows S0 rfl (by kernel_rfl) ?_ ?_
  · refine ⟨⟨⟨trivial, ?_⟩, ?_⟩, ?_⟩
    · exact owe_box rfl wA rfl (oS 0 0) rfl (fun ρ w h => box_gso shp_sf2 ρ _ _ w h)
    · exact owe_new rfl wA rfl rfl (fun ρ w => alloc_rat ρ _ w)
    · exact mC
  intro B1 a1 W1 (S1 : Sta w 74 [(2, (.box 25 (SF [(Vv nD D K), (Mv nL L K)]))), (4, (.box 30 zR))] [(1, Vv n x K)] _ _ _)
  refine wp_seq ?_
  refine wp_block ?_
  refine wp_stmt_seq [.val (SF [(Vv nD D K), (Mv nL L K)]), kT, kF, kF] [.inr 0, .inr 1] [.inl 3, .inr 0] follows S1 rfl (by kernel_rfl) ?_ ?_
  · refine ⟨⟨⟨⟨trivial, ?_⟩, ?_⟩, ?_⟩, ?_⟩
    · exact lod 0 wA (loads_of strct_gso shp_sf2)
    · exact ch1 wA (qO 0 12 rfl) (fresh_is _) (fun w u h => may_t w u nD nL K D L h hD hL hK lD lL g)
    · exact b_not wA (oO 1 13)
    · exact mO 2 14
  intro B2 a2 W2 (S2 : Sta w 74 [(2, (.box 25 (SF [(Vv nD D K), (Mv nL L K)]))), (4, (.box 30 zR))] [(11, bF), (1, Vv n x K)] _ _ _)
  refine wp_cond_false (S2.bool 0 11 rfl) ?_
  refine wp_stmt_seq [.val (Vv n x K), .val (iV (n : Nat)), .val (Part a2 2 1), .val (Mv nL L K), .val (iV (nL : Nat)), kF, kF] [.inr 0, .inr 1] [.inl 6, .inr 1] follows S2 rfl (by kernel_rfl) ?_ ?_
  · repeat' refine And.intro ?_ ?_
    · trivial
    · exact mS 1 1
    · exact owe_len rfl wA rfl (oO 0 17) ar_len Tryz.underlying22 rfl
    · exact owe_part rfl wA rfl (k := 0) rfl (by kernel_rfl) rfl (fun ρ w b h => part_gso1 ρ _ _ w b 0 h)
    · exact owe_pload rfl wA rfl (oO 2 19) (k := 0) rfl (by kernel_rfl) rfl (fun ρ w b u h1 h2 h3 => ploadS rfl load1_mat ρ _ _ w b u h1 h2 h3)
    · exact owe_len rfl wA rfl (oO 3 20) ar_len Tryz.underlying23 rfl
    · exact b_neq_int_f wA (oO 1 18) (oO 4 21)
    · exact mO 5 22
  intro B3 a3 W3 (S3 : Sta w 74 [(2, (.box 25 (SF [(Vv nD D K), (Mv nL L K)]))), (4, (.box 30 zR))] [(16, bF), (1, Vv n x K)] _ _ _)
  refine wp_cond_false (S3.bool 0 16 rfl) ?_
  refine wp_skip ?_
  refine inBlkN ?_
  refine thenN ?_
  refine wp_stmt_seq [.val ((ZN (0)) w.heap.size), .val ((QQ (nmP D x L n 0) (nmQ D 0)) w.heap.size), .new (.box 30 zR), .put (.inr 2) (.box 30 ((QQ (nmP D x L n 0) (nmQ D 0)) w.heap.size))] [.inr 0, .inr 1, .inl 2] [.inr 1] follows S3 rfl (by kernel_rfl) ?_ ?_
  · refine ⟨⟨⟨⟨trivial, ?_⟩, ?_⟩, ?_⟩, ?_⟩
    · exact cc1 wA (opnd_const _) (fresh_zn _) (g_zof (0) (by omega) (by omega))
    · exact cc1 wA (qO 0 24 rfl) (fresh_qq _ _) (fun w u h1 => Gives.cast (g_ratof (A := 0) (k := 1) (by omega) w u (zn_zv (by decide) _ _ h1)) (qq_1 0))
    · exact owe_new rfl wA rfl rfl (fun ρ w => alloc_rat ρ _ w)
    · exact owe_put 2 rfl wA rfl (by kernel_rfl) rfl (oO 1 25) (stores_of strct_rat shp_r0 shp_qq) rfl
  intro B4 a4 W4 (S4 : Sta w 74 [(2, (.box 25 (SF [(Vv nD D K), (Mv nL L K)]))), (4, (.box 30 zR)), (6, (.box 30 ((QQ (nmP D x L n 0) (nmQ D 0)) w.heap.size)))] [(1, Vv n x K)] _ _ _)
  refine wp_seq ?_
  refine wp_stmt_seq [.val (Vv n x K), .val (iV (n : Nat)), .val (iV 0)] [.inr 0, .inr 1, .inr 2] [.inl 1, .inl 2, .inr 0] follows S4 rfl (by kernel_rfl) ?_ ?_
  · refine ⟨⟨⟨trivial, ?_⟩, ?_⟩, ?_⟩
    · exact mS 0 1
    · exact owe_len rfl wA rfl (oO 0 26) ar_len Tryz.underlying22 rfl
    · exact mC
  intro B5 a5 W5 (S5 : Sta w 74 [(2, (.box 25 (SF [(Vv nD D K), (Mv nL L K)]))), (4, (.box 30 zR)), (6, (.box 30 ((QQ (nmP D x L n 0) (nmQ D 0)) w.heap.size)))] [(27, iV (n : Nat)), (28, iV 0), (1, Vv n x K)] _ _ _)
  refine wp_block ?_
  refine wp_loop_ghost (fun (k0 : Nat) a W => (k0 ≤ n) ∧ ∃ Bq, Sta w 74 [(2, (.box 25 (SF [(Vv nD D K), (Mv nL L K)]))), (4, (.box 30 zR)), (6, (.box 30 ((QQ (nmP D x L n k0) (nmQ D k0)) w.heap.size)))] [(27, iV (n : Nat)), (28, iV (k0 : Nat)), (1, Vv n x K)] Bq a W) (fun (k0 : Nat) => n - k0) ?_ 0 ⟨Nat.zero_le _, B5, S5.sub [0, 1, 2] [0, 1, 2]⟩
  rintro k0 a6 W6 ⟨hcond, B6, S6⟩
  by_cases hlt : k0 < n
  · obtain ⟨hd0, hz0⟩ := dN_eq g (i := k0) (by omega)
    obtain ⟨hd1, hz1⟩ := dN_eq g (i := k0 + 1) (by omega)
    have hw0 := dN_dl g (i := k0) (by omega)
    have hw1 := dN_dl g (i := k0 + 1) (by omega)
    have hb0 := dl_getD dD k0
    have hb1 := dl_getD dD (k0 + 1)
    have hSk := hS k0 (by omega)
    have hSS : (digs (nmS D x L n k0 * nmS D x L n k0).natAbs).length ≤ 4194306 := by rw [Int.natAbs_mul]; exact Nat.le_trans (digs_mul_len hSk hSk) (by omega)
    have hDD : (digs (dN D k0 * dN D (k0 + 1))).length ≤ 2097152 := Nat.le_trans (digs_mul_len (Nat.le_refl _) (Nat.le_refl _)) (by omega)
    have hDDz : (digs ((dN D k0 * dN D (k0 + 1) : Nat) : Int).natAbs).length ≤ 2097152 := hDD
    have hnq := nmQ_ne g k0 (by omega)
    have hxD : (digs ((x.getD k0 0) * (D.getD (k0 + 1) 0)).natAbs).length ≤ 2097152 := by rw [Int.natAbs_mul]; exact Nat.le_trans (digs_mul_len (dl_getD dx _) (dl_getD dD _)) (by omega)
    have hbh : (digs (sumZ (bhL x L k0 (n - 1 - k0))).natAbs).length ≤ 3145728 := by have q := sumZ_len (bhL_dl dx dL k0 (n - 1 - k0)) (n - 1 - k0); rw [List.take_of_length_le (by rw [bhL_len]; omega)] at q; omega
    refine wp_stmt_seq [kT] [.inr 0, .inr 1, .inr 2] [.inl 0, .inr 0, .inr 1, .inr 2] follows S6 rfl (by kernel_rfl) ?_ ?_
    · refine ⟨trivial, ?_⟩
      · exact b_lss_int_t wA (oS 1 28) (oS 0 27)
    intro B7 a7 W7 (S7 : Sta w 74 [(2, (.box 25 (SF [(Vv nD D K), (Mv nL L K)]))), (4, (.box 30 zR)), (6, (.box 30 ((QQ (nmP D x L n k0) (nmQ D k0)) w.heap.size)))] [(29, bT), (27, iV (n : Nat)), (28, iV (k0 : Nat)), (1, Vv n x K)] _ _ _)
    refine wp_seq ?_
    refine wp_cond_true (S7.bool 0 29 rfl) ?_
    refine wp_skip ?_
    refine thenN ?_
    refine wp_seq ?_
    refine wp_block ?_
    refine wp_stmt_seq [.val (iV (k0 : Nat)), .val (iV (k0 : Nat))] [.inr 0, .inr 1, .inr 2] [.inl 1, .inr 1, .inr 2, .inr 3] follows S7 rfl (by kernel_rfl) ?_ ?_
    · refine ⟨⟨trivial, ?_⟩, ?_⟩
      · exact mS 2 28
      · exact mO 0 30
    intro B8 a8 W8 (S8 : Sta w 74 [(2, (.box 25 (SF [(Vv nD D K), (Mv nL L K)]))), (4, (.box 30 zR)), (6, (.box 30 ((QQ (nmP D x L n k0) (nmQ D k0)) w.heap.size)))] [(7, iV (k0 : Nat)), (27, iV (n : Nat)), (28, iV (k0 : Nat)), (1, Vv n x K)] _ _ _)
    refine wp_stmt_seq [.val (Vv n x K), .val (iV (k0 : Nat)), .val (AtE 2 (Zv (x.getD k0 0) K)), .val (Zv (x.getD k0 0) K), .val (Part a8 2 0), .val (Vv nD D K), .val (iV (k0 : Nat)), .val (iV ((k0 + 1 : Nat) : Int)), .val (AtE 2 (Zv (D.getD (k0 + 1) 0) K)), .val (Zv (D.getD (k0 + 1) 0) K), .val ((ZN ((x.getD k0 0) * (D.getD (k0 + 1) 0))) w.heap.size), .val (SF [(Vv nD D K), (Mv nL L K)]), .val (Vv n x K), .val (iV (k0 : Nat)), .val ((ZN (sumZ (bhL x L k0 (n - 1 - k0)))) w.heap.size), .val ((ZN (nmS D x L n k0)) w.heap.size), .new (.box 28 zI), .put (.inr 16) (.box 28 ((ZN (nmS D x L n k0)) w.heap.size))] [.inr 0, .inr 1, .inr 2, .inl 16] [.inr 0, .inr 1, .inr 2, .inr 3] follows S8 rfl (by kernel_rfl) ?_ ?_
    · repeat' refine And.intro ?_ ?_
      · trivial
      · exact mS 3 1
      · exact mS 0 7
      · exact owe_aindex rfl wA rfl idx_ints (oO 0 31) (oO 1 32) (zv_at (by omega)) rfl
      · exact owe_aload rfl wA rfl ldr_int (by decide) (cel_shp (by decide) shp_zv) (oO 2 33) rfl
      · exact owe_part rfl wA rfl (k := 0) rfl (by kernel_rfl) rfl (fun ρ w b h => part_gso0 ρ _ _ w b 0 h)
      · exact owe_pload rfl wA rfl (oO 4 35) (k := 0) rfl (by kernel_rfl) rfl (fun ρ w b u h1 h2 h3 => ploadS rfl load1_vec ρ _ _ w b u h1 h2 h3)
      · exact mS 0 7
      · exact b_add_int wA (oO 6 37) (opnd_const _)
      · exact owe_aindex rfl wA rfl idx_ints (oO 5 36) (oO 7 38) (zv_at (by omega)) rfl
      · exact owe_aload rfl wA rfl ldr_int (by decide) (cel_shp (by decide) shp_zv) (oO 8 39) rfl
      · exact cc2 wA (qO 3 34 rfl) (qO 9 40 rfl) (fresh_zn _) (fun w u v h1 h2 => g_zmul (by omega) w u v ((fun _ _ h => h) _ _ h1) ((fun _ _ h => h) _ _ h2))
      · exact lod 0 wA (loads_of strct_gso shp_sf2)
      · exact mS 3 1
      · exact mS 0 7
      · exact ch3 wA (qO 11 42 rfl) (qO 12 43 rfl) (qO 13 44 rfl) (fresh_zn _) (fun w u v t h hv ht => by obtain rfl : t = _ := ht.now; exact behind_w w u v nD nL n K D x L h hv hD hL hn hK lD lL lx k0 en (by omega) (fun j hj => g.row j (by omega)))
      · exact cc2 wA (qO 10 41 rfl) (qO 14 45 rfl) (fresh_zn _) (fun w u0 u1 h0 h1 => Gives.cast ((fun w u v h1 h2 => g_zadd (by omega) (by omega) w u v ((zn_zv hxD) _ _ h1) ((zn_zv hbh) _ _ h2)) w u0 u1 h0 h1) (by rfl))
      · exact owe_new rfl wA rfl rfl (fun ρ w => alloc_int ρ _ w)
      · exact owe_put 16 rfl wA rfl (by kernel_rfl) rfl (oO 15 46) (stores_of strct_int shp_z0 shp_zn) rfl
    intro B9 a9 W9 (S9 : Sta w 74 [(2, (.box 25 (SF [(Vv nD D K), (Mv nL L K)]))), (4, (.box 30 zR)), (6, (.box 30 ((QQ (nmP D x L n k0) (nmQ D k0)) w.heap.size))), (8, (.box 28 ((ZN (nmS D x L n k0)) w.heap.size)))] [(7, iV (k0 : Nat)), (27, iV (n : Nat)), (28, iV (k0 : Nat)), (1, Vv n x K)] _ _ _)
    refine wp_stmt_seq [.val ((ZN (nmS D x L n k0)) w.heap.size), .val ((ZN (nmS D x L n k0)) w.heap.size), .val ((ZN ((nmS D x L n k0) * (nmS D x L n k0))) w.heap.size), .val (Part a9 2 0), .val (Vv nD D K), .val (iV (k0 : Nat)), .val (AtE 2 (Zv (D.getD k0 0) K)), .val (Zv (D.getD k0 0) K), .val (Part a9 2 0), .val (Vv nD D K), .val (iV (k0 : Nat)), .val (iV ((k0 + 1 : Nat) : Int)), .val (AtE 2 (Zv (D.getD (k0 + 1) 0) K)), .val (Zv (D.getD (k0 + 1) 0) K), .val ((ZN (((dN D k0 * dN D (k0 + 1) : Nat) : Int))) w.heap.size), .val ((TWO (QQ (nmS D x L n k0 * nmS D x L n k0) (dN D k0 * dN D (k0 + 1))) (IS (.int .i64 0))) w.heap.size), .val ((TWO (QQ (nmS D x L n k0 * nmS D x L n k0) (dN D k0 * dN D (k0 + 1))) (IS (.int .i64 0))) w.heap.size), .val ((QQ (nmS D x L n k0 * nmS D x L n k0) (dN D k0 * dN D (k0 + 1))) w.heap.size), .val (iV 0), .new (.box 30 zR), .put (.inr 19) (.box 30 ((QQ (nmS D x L n k0 * nmS D x L n k0) (dN D k0 * dN D (k0 + 1))) w.heap.size)), .val (iV 0)] [.inr 0, .inr 1, .inr 2, .inl 19] [.inr 1, .inr 2, .inr 3] follows S9 rfl (by kernel_rfl) ?_ ?_
    · repeat' refine And.intro ?_ ?_
      · trivial
      · exact lod 3 wA (loads_of strct_int shp_zn)
      · exact lod 3 wA (loads_of strct_int shp_zn)
      · exact cc2 wA (qO 0 48 rfl) (qO 1 49 rfl) (fresh_zn _) (fun w u v h1 h2 => g_zmul (by omega) w u v ((zn_zv hSk) _ _ h1) ((zn_zv hSk) _ _ h2))
      · exact owe_part rfl wA rfl (k := 0) rfl (by kernel_rfl) rfl (fun ρ w b h => part_gso0 ρ _ _ w b 0 h)
      · exact owe_pload rfl wA rfl (oO 3 51) (k := 0) rfl (by kernel_rfl) rfl (fun ρ w b u h1 h2 h3 => ploadS rfl load1_vec ρ _ _ w b u h1 h2 h3)
      · exact mS 0 7
      · exact owe_aindex rfl wA rfl idx_ints (oO 4 52) (oO 5 53) (zv_at (by omega)) rfl
      · exact owe_aload rfl wA rfl ldr_int (by decide) (cel_shp (by decide) shp_zv) (oO 6 54) rfl
      · exact owe_part rfl wA rfl (k := 0) rfl (by kernel_rfl) rfl (fun ρ w b h => part_gso0 ρ _ _ w b 0 h)
      · exact owe_pload rfl wA rfl (oO 8 56) (k := 0) rfl (by kernel_rfl) rfl (fun ρ w b u h1 h2 h3 => ploadS rfl load1_vec ρ _ _ w b u h1 h2 h3)
      · exact mS 0 7
      · exact b_add_int wA (oO 10 58) (opnd_const _)
      · exact owe_aindex rfl wA rfl idx_ints (oO 9 57) (oO 11 59) (zv_at (by omega)) rfl
      · exact owe_aload rfl wA rfl ldr_int (by decide) (cel_shp (by decide) shp_zv) (oO 12 60) rfl
      · exact cc2 wA (qO 7 55 rfl) (qO 13 61 rfl) (fresh_zn _) (fun w u0 u1 h0 h1 => Gives.cast ((fun w u v h1 h2 => g_zmul (by omega) w u v ((fun _ _ h => h) _ _ h1) ((fun _ _ h => h) _ _ h2)) w u0 u1 h0 h1) (by rw [hd0, hd1, ← Int.natCast_mul]))
      · exact cc2 wA (qO 2 50 rfl) (qO 14 62 rfl) (fresh_two (fresh_qq _ _) (fresh_is _)) (fun w u v h1 h2 => g_ratmake (k := 4194306) (k' := 2097152) (Nat.mul_ne_zero hz0 hz1) (by omega) (by omega) w u v ((zn_zv hSS) _ _ h1) ((zn_zv hDDz) _ _ h2))
      · exact mO 15 63
      · exact e20 wA (oO 16 47)
      · exact e21 wA (oO 16 47)
      · exact owe_new rfl wA rfl rfl (fun ρ w => alloc_rat ρ _ w)
      · exact owe_put 19 rfl wA rfl (by kernel_rfl) rfl (oO 17 64) (stores_of strct_rat shp_r0 shp_qq) rfl
      · exact mO 18 65
    intro B10 a10 W10 (S10 : Sta w 74 [(2, (.box 25 (SF [(Vv nD D K), (Mv nL L K)]))), (4, (.box 30 zR)), (6, (.box 30 ((QQ (nmP D x L n k0) (nmQ D k0)) w.heap.size))), (9, (.box 30 ((QQ (nmS D x L n k0 * nmS D x L n k0) (dN D k0 * dN D (k0 + 1))) w.heap.size)))] [(27, iV (n : Nat)), (28, iV (k0 : Nat)), (1, Vv n x K)] _ _ _)
    refine wp_stmt [.val ((QQ (nmP D x L n k0) (nmQ D k0)) w.heap.size), .val ((QQ (nmS D x L n k0 * nmS D x L n k0) (dN D k0 * dN D (k0 + 1))) w.heap.size), .val ((TWO (QQ (nmP D x L n (k0 + 1)) (nmQ D (k0 + 1))) (IS (.int .i64 0))) w.heap.size), .val ((TWO (QQ (nmP D x L n (k0 + 1)) (nmQ D (k0 + 1))) (IS (.int .i64 0))) w.heap.size), .val ((QQ (nmP D x L n (k0 + 1)) (nmQ D (k0 + 1))) w.heap.size), .val (iV 0), .put (.inl 6) (.box 30 ((QQ (nmP D x L n (k0 + 1)) (nmQ D (k0 + 1))) w.heap.size))] [.inr 0, .inr 1, .inr 2] [.inr 0, .inr 1, .inr 2] follows S10 rfl (by kernel_rfl) ?_ ?_
    · repeat' refine And.intro ?_ ?_
      · trivial
      · exact lod 2 wA (loads_of strct_rat shp_qq)
      · exact lod 3 wA (loads_of strct_rat shp_qq)
      · exact cc2 wA (qO 0 67 rfl) (qO 1 68 rfl) (fresh_two (fresh_qq _ _) (fresh_is _)) (fun w u v h1 h2 => q_add (k := 8388608) (k' := 8388608) hnq (Nat.mul_ne_zero hz0 hz1) (hPd k0 (by omega)) (Nat.le_trans (hQd k0 (by omega)) (by omega)) (by omega) (by omega) (Nat.le_refl _) (Nat.le_refl _) w u v h1 h2)
      · exact mO 2 69
      · exact e20 wA (oO 3 66)
      · exact e21 wA (oO 3 66)
      · exact owe_set rfl wA rfl (k := 2) rfl (by kernel_rfl) (oO 4 70) (stores_of strct_rat shp_qq shp_qq) rfl
    intro B11 a11 W11 (S11 : Sta w 74 [(2, (.box 25 (SF [(Vv nD D K), (Mv nL L K)]))), (4, (.box 30 zR)), (6, (.box 30 ((QQ (nmP D x L n (k0 + 1)) (nmQ D (k0 + 1))) w.heap.size)))] [(27, iV (n : Nat)), (28, iV (k0 : Nat)), (1, Vv n x K)] _ _ _)
    refine inBlkN ?_
    refine thenN ?_
    refine wp_stmt [.val (iV (k0 + 1 : Nat)), .val (iV (k0 + 1 : Nat))] [.inr 0, .inr 1, .inr 2] [.inl 1, .inr 0, .inr 2] follows S11 rfl (by kernel_rfl) ?_ ?_
    · refine ⟨⟨trivial, ?_⟩, ?_⟩
      · exact b_add_int wA (oS 1 28) (opnd_const _)
      · exact mO 0 72
    intro B12 a12 W12 (S12 : Sta w 74 [(2, (.box 25 (SF [(Vv nD D K), (Mv nL L K)]))), (4, (.box 30 zR)), (6, (.box 30 ((QQ (nmP D x L n (k0 + 1)) (nmQ D (k0 + 1))) w.heap.size)))] [(28, iV (k0 + 1 : Nat)), (27, iV (n : Nat)), (1, Vv n x K)] _ _ _)
    refine thenN ?_
    exact ⟨k0 + 1, ⟨by omega, B12, S12.sub [0, 1, 2] [1, 0, 2]⟩, by omega⟩
  · have ek : k0 = n := by omega
    rw [ek] at S6
    refine wp_stmt_seq [kF] [.inr 0, .inr 1, .inr 2] [.inl 0, .inr 0, .inr 1, .inr 2] follows S6 rfl (by kernel_rfl) ?_ ?_
    · refine ⟨trivial, ?_⟩
      · exact b_lss_int_f wA (oS 1 28) (oS 0 27)
    intro B7 a7 W7 (S7 : Sta w 74 [(2, (.box 25 (SF [(Vv nD D K), (Mv nL L K)]))), (4, (.box 30 zR)), (6, (.box 30 ((QQ (nmP D x L n n) (nmQ D n)) w.heap.size)))] [(29, bF), (27, iV (n : Nat)), (28, iV (n : Nat)), (1, Vv n x K)] _ _ _)
    refine wp_seq ?_
    refine wp_cond_false (S7.bool 0 29 rfl) ?_
    refine wp_exit ?_
    refine thenX ?_
    refine thenX ?_
    refine inBlkE ?_
    refine thenN ?_
    refine wp_stmt_seq [.val ((QQ (nmP D x L n n) (nmQ D n)) w.heap.size), .put (.inl 4) (.box 30 ((QQ (nmP D x L n n) (nmQ D n)) w.heap.size)), .val (iV 0)] [.inr 0, .inr 1, .inr 2] [.inl 2, .inr 1, .inr 2, .inr 3] follows S7 rfl (by kernel_rfl) ?_ ?_
    · refine ⟨⟨⟨trivial, ?_⟩, ?_⟩, ?_⟩
      · exact lod 2 wA (loads_of strct_rat shp_qq)
      · exact owe_set rfl wA rfl (k := 1) rfl (by kernel_rfl) (oO 0 73) (stores_of strct_rat shp_r0 shp_qq) rfl
      · exact mC
    intro B8 a8 W8 (S8 : Sta w 74 [(2, (.box 25 (SF [(Vv nD D K), (Mv nL L K)]))), (4, (.box 30 ((QQ (nmP D x L n n) (nmQ D n)) w.heap.size))), (6, (.box 30 ((QQ (nmP D x L n n) (nmQ D n)) w.heap.size)))] [(5, iV 0), (27, iV (n : Nat)), (28, iV (n : Nat)), (1, Vv n x K)] _ _ _)
    refine wp_ret ?_
    exact end_two S8 rfl (res_cell S8 1 4 rfl strct_rat shp_qq) (res_tmp S8 0 5 rfl)

set_option maxHeartbeats 400000 in
theorem rtimes_w (w : World) (u v : Value) (P z : Int) (Q lo k : Nat) (h : Hs w (QQ P Q lo) u) (hv : Hs w (Zv z k) v) (hQ : Q ≠ 0) (b1 : (digs P.natAbs).length ≤ 8388608) (b2 : (digs Q).length ≤ 8388608) (b3 : (digs z.natAbs).length ≤ 8388608) (hk : k ≤ 8388608) :
    Calls Tryz.prog 34 #[u, v] w (Gives (QQ (P * z) (Q * 1)) w) := by
  refine calls_sta (sl := [(0, (QQ P Q lo)), (1, (Zv z k))]) Tryz.func34 rfl Tryz.ntmps34 (by simp) (args_cons rfl (h) (args_cons rfl (hv) args_nil)) ?_
  intro a0 S0
  refine wp_stmt_seq [.new (.box 30 (QQ P Q lo)), .new (.box 28 (Zv z k)), .new (.box 30 zR)] [.inl 0, .inl 1, .inl 2] [] follows S0 rfl (by kernel_rfl) ?_ ?_
  · refine ⟨⟨⟨trivial, ?_⟩, ?_⟩, ?_⟩
    · exact owe_box rfl wA rfl (oS 0 0) rfl (fun ρ w h => box_rat shp_qq ρ _ _ w h)
    · exact owe_box rfl wA rfl (oS 1 1) rfl (fun ρ w h => box_int shp_zv ρ _ _ w h)
    · exact owe_new rfl wA rfl rfl (fun ρ w => alloc_rat ρ _ w)
  intro B1 a1 W1 (S1 : Sta w 9 [(2, (.box 30 (QQ P Q lo))), (3, (.box 28 (Zv z k))), (4, (.box 30 zR))] [] _ _ _)
  refine wp_stmt_seq [.val (QQ P Q lo), .val (Zv z k), .val ((QQ z 1) w.heap.size), .val ((QQ (P * z) (Q * 1)) w.heap.size), .put (.inl 4) (.box 30 ((QQ (P * z) (Q * 1)) w.heap.size))] [.inr 2] [] follows S1 rfl (by kernel_rfl) ?_ ?_
  · refine ⟨⟨⟨⟨⟨trivial, ?_⟩, ?_⟩, ?_⟩, ?_⟩, ?_⟩
    · exact lod 0 wA (loads_of strct_rat shp_qq)
    · exact lod 1 wA (loads_of strct_int shp_zv)
    · exact cc1 wA (qO 1 6 rfl) (fresh_qq _ _) (fun w u h1 => Gives.cast (g_rofG (A := z) (k := k) (by omega) w u h1) (qq_1 z))
    · exact cc2 wA (qO 0 5 rfl) (qO 2 7 rfl) (fresh_qq _ _) (fun w u v h1 h2 => q_rmul (k := 8388608) (k' := 8388608) hQ (by decide) b1 b2 b3 (Nat.le_trans one_dl (by omega)) (Nat.le_refl _) (Nat.le_refl _) w u v h1 h2)
    · exact owe_set rfl wA rfl (k := 2) rfl (by kernel_rfl) (oO 3 8) (stores_of strct_rat shp_r0 shp_qq) rfl
  intro B2 a2 W2 (S2 : Sta w 9 [(4, (.box 30 ((QQ (P * z) (Q * 1)) w.heap.size)))] [] _ _ _)
  refine wp_ret ?_
  exact end_one S2 rfl (res_cell S2 0 4 rfl strct_rat shp_qq)

set_option maxHeartbeats 400000 in
theorem rsquare_w (w : World) (u : Value) (P : Int) (Q lo : Nat) (h : Hs w (QQ P Q lo) u) (hQ : Q ≠ 0) (b1 : (digs P.natAbs).length ≤ 8388608) (b2 : (digs Q).length ≤ 8388608) :
    Calls Tryz.prog 36 #[u] w (Gives (QQ (P * P) (Q * Q)) w) := by
  refine calls_sta (sl := [(0, (QQ P Q lo))]) Tryz.func36 rfl Tryz.ntmps36 (by simp) (args_cons rfl (h) args_nil) ?_
  intro a0 S0
  refine wp_stmt_seq [.new (.box 30 (QQ P Q lo)), .new (.box 30 zR)] [.inl 0, .inl 1] [] follows S0 rfl (by kernel_rfl) ?_ ?_
  · refine ⟨⟨trivial, ?_⟩, ?_⟩
    · exact owe_box rfl wA rfl (oS 0 0) rfl (fun ρ w h => box_rat shp_qq ρ _ _ w h)
    · exact owe_new rfl wA rfl rfl (fun ρ w => alloc_rat ρ _ w)
  intro B1 a1 W1 (S1 : Sta w 6 [(1, (.box 30 (QQ P Q lo))), (2, (.box 30 zR))] [] _ _ _)
  refine wp_stmt_seq [.val (QQ P Q lo), .val (QQ P Q lo), .val ((QQ (P * P) (Q * Q)) w.heap.size), .put (.inl 2) (.box 30 ((QQ (P * P) (Q * Q)) w.heap.size))] [.inr 1] [] follows S1 rfl (by kernel_rfl) ?_ ?_
  · refine ⟨⟨⟨⟨trivial, ?_⟩, ?_⟩, ?_⟩, ?_⟩
    · exact lod 0 wA (loads_of strct_rat shp_qq)
    · exact lod 0 wA (loads_of strct_rat shp_qq)
    · exact cc2 wA (qO 0 3 rfl) (qO 1 4 rfl) (fresh_qq _ _) (fun w u v h1 h2 => q_rmul (k := 8388608) (k' := 8388608) hQ hQ b1 b2 b1 b2 (Nat.le_refl _) (Nat.le_refl _) w u v h1 h2)
    · exact owe_set rfl wA rfl (k := 1) rfl (by kernel_rfl) (oO 2 5) (stores_of strct_rat shp_r0 shp_qq) rfl
  intro B2 a2 W2 (S2 : Sta w 6 [(2, (.box 30 ((QQ (P * P) (Q * Q)) w.heap.size)))] [] _ _ _)
  refine wp_ret ?_
  exact end_one S2 rfl (res_cell S2 0 2 rfl strct_rat shp_qq)

set_option maxHeartbeats 4000000 in
theorem rnrm_w (w : World) (u v : Value) (nD nL n K : Nat) (D x : List Int) (L : List (List Int)) (h : Hs w (SF [Vv nD D K, Mv nL L K]) u) (hv : Hs w (Vv n x K) v) (hD : nD ≤ 1048576) (hL : nL ≤ 1048576) (hn : n ≤ 1048576) (hK : K ≤ 1048576) (lD : D.length = nD) (lL : L.length = nL) (lx : x.length = n) (g : Good D L) (en : nL = n) (dD : Dl D K) (dx : Dl x K) (dL : Mdl L K) (hKn : K + n ≤ 1048576) (hW : wtD D (n + 1) ≤ 1048576) :
    Calls Tryz.prog 14 #[u, v] w (Gives (QQ (nmP D x L n n) (nmQ D n)) w) := by
  have hgl := g.len
  have hT : ∀ i t, t ≤ n → (digs (nmT D x L i t).natAbs).length ≤ 2097153 := fun i t ht => Nat.le_trans (nmT_dl dD dx dL i t) (by omega)
  have hS : ∀ i, i < n → (digs (nmS D x L n i).natAbs).length ≤ 2097153 := fun i hi => hT i _ (by omega)
  have hQd : ∀ k, k ≤ n → (digs (nmQ D k)).length ≤ 2097153 := fun k hk => by have q1 := nmQ_dl g k (by omega); have q2 := wtD_mono D (show k ≤ n + 1 by omega); have q3 := wtD_mono D (show k + 1 ≤ n + 1 by omega); omega
  have hPd : ∀ k, k ≤ n → (digs (nmP D x L n k).natAbs).length ≤ 8388608 := fun k hk => by have q1 := nmP_dl (n := n) g hS (by omega) k hk; have q2 := wtD_mono D (show k ≤ n + 1 by omega); have q3 := wtD_mono D (show k + 1 ≤ n + 1 by omega); omega
  refine calls_sta (sl := [(0, (SF [(Vv nD D K), (Mv nL L K)])), (1, (Vv n x K))]) Tryz.func14 rfl Tryz.ntmps14 (by simp) (args_cons rfl (h) (args_cons rfl (hv) args_nil)) ?_
  intro a0 S0
  refine wp_stmt_seq [.new (.box 25 (SF [(Vv nD D K), (Mv nL L K)])), .new (.box 30 zR)] [.inl 0, .inl 1] [.inr 1] follows S0 rfl (by kernel_rfl) ?_ ?_
  · refine ⟨⟨trivial, ?_⟩, ?_⟩
    · exact owe_box rfl wA rfl (oS 0 0) rfl (fun ρ w h => box_gso shp_sf2 ρ _ _ w h)
    · exact owe_new rfl wA rfl rfl (fun ρ w => alloc_rat ρ _ w)
  intro B1 a1 W1 (S1 : Sta w 50 [(2, (.box 25 (SF [(Vv nD D K), (Mv nL L K)]))), (4, (.box 30 zR))] [(1, Vv n x K)] _ _ _)
  refine wp_stmt_seq [.new (.box 30 zR)] [.inr 0, .inr 1, .inl 0] [.inr 0] follows S1 rfl (by kernel_rfl) ?_ ?_
  · refine ⟨trivial, ?_⟩
    · exact owe_new rfl wA rfl rfl (fun ρ w => alloc_rat ρ _ w)
  intro B2 a2 W2 (S2 : Sta w 50 [(2, (.box 25 (SF [(Vv nD D K), (Mv nL L K)]))), (4, (.box 30 zR)), (5, (.box 30 zR))] [(1, Vv n x K)] _ _ _)
  refine wp_stmt_seq [.val zI, .val ((QQ (nmP D x L n 0) (nmQ D 0)) w.heap.size), .put (.inl 5) (.box 30 ((QQ (nmP D x L n 0) (nmQ D 0)) w.heap.size))] [.inr 0, .inr 1, .inr 2] [.inr 0] follows S2 rfl (by kernel_rfl) ?_ ?_
  · refine ⟨⟨⟨trivial, ?_⟩, ?_⟩, ?_⟩
    · exact owe_build_int rfl wA rfl rfl
    · exact cc1 wA (qO 0 9 rfl) (fresh_qq _ _) (fun w u h1 => Gives.cast (g_rofG (A := 0) (k := 0) (by omega) w u (zero_zv _ _ h1)) (qq_1 0))
    · exact owe_set rfl wA rfl (k := 2) rfl (by kernel_rfl) (oO 1 10) (stores_of strct_rat shp_r0 shp_qq) rfl
  intro B3 a3 W3 (S3 : Sta w 50 [(2, (.box 25 (SF [(Vv nD D K), (Mv nL L K)]))), (4, (.box 30 zR)), (5, (.box 30 ((QQ (nmP D x L n 0) (nmQ D 0)) w.heap.size)))] [(1, Vv n x K)] _ _ _)
  refine wp_seq ?_
  refine wp_stmt_seq [.val (iV 0)] [.inr 0, .inr 1, .inr 2] [.inl 0, .inr 0] follows S3 rfl (by kernel_rfl) ?_ ?_
  · refine ⟨trivial, ?_⟩
    · exact mC
  intro B4 a4 W4 (S4 : Sta w 50 [(2, (.box 25 (SF [(Vv nD D K), (Mv nL L K)]))), (4, (.box 30 zR)), (5, (.box 30 ((QQ (nmP D x L n 0) (nmQ D 0)) w.heap.size)))] [(6, iV 0), (1, Vv n x K)] _ _ _)
  refine wp_block ?_
  refine wp_loop_ghost (fun (k0 : Nat) a W => (k0 ≤ n) ∧ ∃ Bq, Sta w 50 [(2, (.box 25 (SF [(Vv nD D K), (Mv nL L K)]))), (4, (.box 30 zR)), (5, (.box 30 ((QQ (nmP D x L n k0) (nmQ D k0)) w.heap.size)))] [(6, iV (k0 : Nat)), (1, Vv n x K)] Bq a W) (fun (k0 : Nat) => n - k0) ?_ 0 ⟨Nat.zero_le _, B4, S4.sub [0, 1, 2] [0, 1]⟩
  rintro k0 a5 W5 ⟨hcond, B5, S5⟩
  by_cases hlt : k0 < n
  · obtain ⟨hd0, hz0⟩ := dN_eq g (i := k0) (by omega)
    obtain ⟨hd1, hz1⟩ := dN_eq g (i := k0 + 1) (by omega)
    have hw0 := dN_dl g (i := k0) (by omega)
    have hw1 := dN_dl g (i := k0 + 1) (by omega)
    have hb0 := dl_getD dD k0
    have hb1 := dl_getD dD (k0 + 1)
    have hSk := hS k0 (by omega)
    have hSS : (digs (nmS D x L n k0 * nmS D x L n k0).natAbs).length ≤ 4194306 := by rw [Int.natAbs_mul]; exact Nat.le_trans (digs_mul_len hSk hSk) (by omega)
    have hDD : (digs (dN D k0 * dN D (k0 + 1))).length ≤ 2097152 := Nat.le_trans (digs_mul_len (Nat.le_refl _) (Nat.le_refl _)) (by omega)
    have hDDz : (digs ((dN D k0 * dN D (k0 + 1) : Nat) : Int).natAbs).length ≤ 2097152 := hDD
    have hnq := nmQ_ne g k0 (by omega)
    have hxD : (digs ((x.getD k0 0) * (D.getD (k0 + 1) 0)).natAbs).length ≤ 2097152 := by rw [Int.natAbs_mul]; exact Nat.le_trans (digs_mul_len (dl_getD dx _) (dl_getD dD _)) (by omega)
    have hbh : (digs (sumZ (bhL x L k0 (n - 1 - k0))).natAbs).length ≤ 3145728 := by have q := sumZ_len (bhL_dl dx dL k0 (n - 1 - k0)) (n - 1 - k0); rw [List.take_of_length_le (by rw [bhL_len]; omega)] at q; omega
    refine wp_seq ?_
    refine wp_stmt_seq [.val (iV (k0 : Nat)), .val (Vv n x K), .val (iV (n : Nat)), kT] [.inr 0, .inr 1, .inr 2] [.inl 3, .inr 0, .inr 1] follows S5 rfl (by kernel_rfl) ?_ ?_
    · refine ⟨⟨⟨⟨trivial, ?_⟩, ?_⟩, ?_⟩, ?_⟩
      · exact mS 0 6
      · exact mS 1 1
      · exact owe_len rfl wA rfl (oO 1 12) ar_len Tryz.underlying22 rfl
      · exact b_lss_int_t wA (oO 0 11) (oO 2 13)
    intro B6 a6 W6 (S6 : Sta w 50 [(2, (.box 25 (SF [(Vv nD D K), (Mv nL L K)]))), (4, (.box 30 zR)), (5, (.box 30 ((QQ (nmP D x L n k0) (nmQ D k0)) w.heap.size)))] [(14, bT), (6, iV (k0 : Nat)), (1, Vv n x K)] _ _ _)
    refine wp_cond_true (S6.bool 0 14 rfl) ?_
    refine wp_skip ?_
    refine thenN ?_
    refine wp_seq ?_
    refine wp_block ?_
    refine wp_stmt_seq [.val (Vv n x K), .val (iV (k0 : Nat)), .val (AtE 2 (Zv (x.getD k0 0) K)), .val (Zv (x.getD k0 0) K), .val ((QQ (nmT D x L k0 0) (dN D (k0 + 1))) w.heap.size), .new (.box 30 zR), .put (.inr 5) (.box 30 ((QQ (nmT D x L k0 0) (dN D (k0 + 1))) w.heap.size))] [.inr 0, .inr 1, .inr 2, .inl 5] [.inr 1, .inr 2] follows S6 rfl (by kernel_rfl) ?_ ?_
    · repeat' refine And.intro ?_ ?_
      · trivial
      · exact mS 2 1
      · exact mS 1 6
      · exact owe_aindex rfl wA rfl idx_ints (oO 0 17) (oO 1 18) (zv_at (by omega)) rfl
      · exact owe_aload rfl wA rfl ldr_int (by decide) (cel_shp (by decide) shp_zv) (oO 2 19) rfl
      · exact cc1 wA (qO 3 20 rfl) (fresh_qq _ _) (fun w u h1 => Gives.cast (g_rofG (k := K) (by omega) w u h1) ((qq_1 _).trans (c_start hd1 hz1)))
      · exact owe_new rfl wA rfl rfl (fun ρ w => alloc_rat ρ _ w)
      · exact owe_put 5 rfl wA rfl (by kernel_rfl) rfl (oO 4 21) (stores_of strct_rat shp_r0 shp_qq) rfl
    intro B7 a7 W7 (S7 : Sta w 50 [(2, (.box 25 (SF [(Vv nD D K), (Mv nL L K)]))), (4, (.box 30 zR)), (5, (.box 30 ((QQ (nmP D x L n k0) (nmQ D k0)) w.heap.size))), (7, (.box 30 ((QQ (nmT D x L k0 0) (dN D (k0 + 1))) w.heap.size)))] [(6, iV (k0 : Nat)), (1, Vv n x K)] _ _ _)
    refine wp_seq ?_
    refine wp_stmt_seq [.val (iV (k0 : Nat)), .val (iV ((k0 + 1 + 0 : Nat) : Int)), .val (iV ((k0 + 1 + 0 : Nat) : Int))] [.inr 0, .inr 1, .inr 2, .inr 3] [.inl 2, .inr 0, .inr 1] follows S7 rfl (by kernel_rfl) ?_ ?_
    · refine ⟨⟨⟨trivial, ?_⟩, ?_⟩, ?_⟩
      · exact mS 0 6
      · exact b_add_int wA (oO 0 22) (opnd_const _)
      · exact mO 1 23
    intro B8 a8 W8 (S8 : Sta w 50 [(2, (.box 25 (SF [(Vv nD D K), (Mv nL L K)]))), (4, (.box 30 zR)), (5, (.box 30 ((QQ (nmP D x L n k0) (nmQ D k0)) w.heap.size))), (7, (.box 30 ((QQ (nmT D x L k0 0) (dN D (k0 + 1))) w.heap.size)))] [(8, iV ((k0 + 1 + 0 : Nat) : Int)), (6, iV (k0 : Nat)), (1, Vv n x K)] _ _ _)
    refine wp_block ?_
    refine wp_loop_ghost (fun (t : Nat) a W => (t ≤ n - 1 - k0) ∧ ∃ Bq, Sta w 50 [(2, (.box 25 (SF [(Vv nD D K), (Mv nL L K)]))), (4, (.box 30 zR)), (5, (.box 30 ((QQ (nmP D x L n k0) (nmQ D k0)) w.heap.size))), (7, (.box 30 ((QQ (nmT D x L k0 t) (dN D (k0 + 1))) w.heap.size)))] [(8, iV ((k0 + 1 + t : Nat) : Int)), (6, iV (k0 : Nat)), (1, Vv n x K)] Bq a W) (fun (t : Nat) => n - 1 - k0 - t) ?_ 0 ⟨Nat.zero_le _, B8, S8.sub [0, 1, 2, 3] [0, 1, 2]⟩
    rintro t a9 W9 ⟨hcond, B9, S9⟩
    by_cases hlt2 : t < n - 1 - k0
    · skip
      refine wp_seq ?_
      refine wp_stmt_seq [.val (iV ((k0 + 1 + t : Nat) : Int)), .val (Vv n x K), .val (iV (n : Nat)), kT] [.inr 0, .inr 1, .inr 2, .inr 3] [.inl 3, .inr 0, .inr 1, .inr 2] follows S9 rfl (by kernel_rfl) ?_ ?_
      · refine ⟨⟨⟨⟨trivial, ?_⟩, ?_⟩, ?_⟩, ?_⟩
        · exact mS 0 8
        · exact mS 2 1
        · exact owe_len rfl wA rfl (oO 1 25) ar_len Tryz.underlying22 rfl
        · exact b_lss_int_t wA (oO 0 24) (oO 2 26)
      intro B10 a10 W10 (S10 : Sta w 50 [(2, (.box 25 (SF [(Vv nD D K), (Mv nL L K)]))), (4, (.box 30 zR)), (5, (.box 30 ((QQ (nmP D x L n k0) (nmQ D k0)) w.heap.size))), (7, (.box 30 ((QQ (nmT D x L k0 t) (dN D (k0 + 1))) w.heap.size)))] [(27, bT), (8, iV ((k0 + 1 + t : Nat) : Int)), (6, iV (k0 : Nat)), (1, Vv n x K)] _ _ _)
      refine wp_cond_true (S10.bool 0 27 rfl) ?_
      refine wp_skip ?_
      refine thenN ?_
      refine wp_seq ?_
      refine wp_block ?_
      refine wp_stmt [.val ((QQ (nmT D x L k0 t) (dN D (k0 + 1))) w.heap.size), .val (SF [(Vv nD D K), (Mv nL L K)]), .val (iV ((k0 + 1 + t : Nat) : Int)), .val (iV (k0 : Nat)), .val ((QQ ((L.getD (k0 + 1 + t) []).getD k0 0) (dN D (k0 + 1))) w.heap.size), .val (Vv n x K), .val (iV ((k0 + 1 + t : Nat) : Int)), .val (AtE 2 (Zv (x.getD (k0 + 1 + t) 0) K)), .val (Zv (x.getD (k0 + 1 + t) 0) K), .val ((QQ (((L.getD (k0 + 1 + t) []).getD k0 0) * (x.getD (k0 + 1 + t) 0)) (dN D (k0 + 1) * 1)) w.heap.size), .val ((QQ (nmT D x L k0 (t + 1)) (dN D (k0 + 1))) w.heap.size), .put (.inl 7) (.box 30 ((QQ (nmT D x L k0 (t + 1)) (dN D (k0 + 1))) w.heap.size))] [.inr 0, .inr 1, .inr 2, .inr 3] [.inr 1, .inr 2, .inr 3] follows S10 rfl (by kernel_rfl) ?_ ?_
      · repeat' refine And.intro ?_ ?_
        · trivial
        · exact lod 3 wA (loads_of strct_rat shp_qq)
        · exact lod 0 wA (loads_of strct_gso shp_sf2)
        · exact mS 1 8
        · exact mS 2 6
        · exact ch3 wA (qO 1 31 rfl) (qO 2 32 rfl) (qO 3 33 rfl) (fresh_qq _ _) (fun w u a b h ha hb => by obtain rfl : a = _ := ha.now; obtain rfl : b = _ := hb.now; exact rmu_m w u nD nL K D L h hD hL hK lD lL (k0 + 1 + t) k0 (dN D (k0 + 1)) g (by omega) (by omega) hd1 hz1)
        · exact mS 3 1
        · exact mS 1 8
        · exact owe_aindex rfl wA rfl idx_ints (oO 5 35) (oO 6 36) (zv_at (by omega)) rfl
        · exact owe_aload rfl wA rfl ldr_int (by decide) (cel_shp (by decide) shp_zv) (oO 7 37) rfl
        · exact ch2 wA (qO 4 34 rfl) (qO 8 38 rfl) (fresh_qq _ _) (fun w u v h1 h2 => rtimes_w w u v _ _ _ _ K h1 h2 hz1 (Nat.le_trans (dl_getD (mdl_getD dL _) _) (by omega)) (by omega) (Nat.le_trans (dl_getD dx _) (by omega)) (by omega))
        · exact cc2 wA (qO 0 30 rfl) (qO 9 39 rfl) (fresh_qq _ _) (fun w u v h1 h2 => Gives.cast (ψ := QQ (nmT D x L k0 (t + 1)) (dN D (k0 + 1))) (q_radd (k := 8388608) (k' := 8388608) hz1 (Nat.mul_ne_zero hz1 (by decide)) (Nat.le_trans (hT k0 t (by omega)) (by omega)) (by omega) (by rw [Int.natAbs_mul]; exact Nat.le_trans (digs_mul_len (dl_getD (mdl_getD dL _) _) (dl_getD dx _)) (by omega)) (by rw [Nat.mul_one]; omega) (Nat.le_refl _) (Nat.le_refl _) w u v h1 h2) (by rw [c_step hz1, ← nmT_succ]))
        · exact owe_set rfl wA rfl (k := 3) rfl (by kernel_rfl) (oO 10 40) (stores_of strct_rat shp_qq shp_qq) rfl
      intro B11 a11 W11 (S11 : Sta w 50 [(2, (.box 25 (SF [(Vv nD D K), (Mv nL L K)]))), (4, (.box 30 zR)), (5, (.box 30 ((QQ (nmP D x L n k0) (nmQ D k0)) w.heap.size))), (7, (.box 30 ((QQ (nmT D x L k0 (t + 1)) (dN D (k0 + 1))) w.heap.size)))] [(8, iV ((k0 + 1 + t : Nat) : Int)), (6, iV (k0 : Nat)), (1, Vv n x K)] _ _ _)
      refine inBlkN ?_
      refine thenN ?_
      refine wp_stmt [.val (iV ((k0 + 1 + t : Nat) : Int)), .val (Is (.int .i64 ((k0 + 1 + (t + 1) : Nat) : Int))), .val (Is (.int .i64 ((k0 + 1 + (t + 1) : Nat) : Int)))] [.inr 0, .inr 1, .inr 2, .inr 3] [.inl 2, .inr 1, .inr 2] follows S11 rfl (by kernel_rfl) ?_ ?_
      · refine ⟨⟨⟨trivial, ?_⟩, ?_⟩, ?_⟩
        · exact mS 0 8
        · exact b_add_int wA (oO 0 28) (opnd_const _)
        · exact mO 1 29
      intro B12 a12 W12 (S12 : Sta w 50 [(2, (.box 25 (SF [(Vv nD D K), (Mv nL L K)]))), (4, (.box 30 zR)), (5, (.box 30 ((QQ (nmP D x L n k0) (nmQ D k0)) w.heap.size))), (7, (.box 30 ((QQ (nmT D x L k0 (t + 1)) (dN D (k0 + 1))) w.heap.size)))] [(8, Is (.int .i64 ((k0 + 1 + (t + 1) : Nat) : Int))), (6, iV (k0 : Nat)), (1, Vv n x K)] _ _ _)
      refine thenN ?_
      exact ⟨t + 1, ⟨by omega, B12, S12.sub [0, 1, 2, 3] [0, 1, 2]⟩, by omega⟩
    · have et : t = n - 1 - k0 := by omega
      rw [et] at S9
      refine wp_seq ?_
      refine wp_stmt_seq [.val (Is (.int .i64 ((k0 + 1 + (n - 1 - k0) : Nat) : Int))), .val (Vv n x K), .val (iV (n : Nat)), kF] [.inr 0, .inr 1, .inr 2, .inr 3] [.inl 3, .inr 0, .inr 1, .inr 2] follows S9 rfl (by kernel_rfl) ?_ ?_
      · refine ⟨⟨⟨⟨trivial, ?_⟩, ?_⟩, ?_⟩, ?_⟩
        · exact mS 0 8
        · exact mS 2 1
        · exact owe_len rfl wA rfl (oO 1 25) ar_len Tryz.underlying22 rfl
        · exact b_lss_int_f wA (oO 0 24) (oO 2 26)
      intro B10 a10 W10 (S10 : Sta w 50 [(2, (.box 25 (SF [(Vv nD D K), (Mv nL L K)]))), (4, (.box 30 zR)), (5, (.box 30 ((QQ (nmP D x L n k0) (nmQ D k0)) w.heap.size))), (7, (.box 30 ((QQ (nmS D x L n k0) (dN D (k0 + 1))) w.heap.size)))] [(27, bF), (8, Is (.int .i64 ((k0 + 1 + (n - 1 - k0) : Nat) : Int))), (6, iV (k0 : Nat)), (1, Vv n x K)] _ _ _)
      refine wp_cond_false (S10.bool 0 27 rfl) ?_
      refine wp_exit ?_
      refine thenX ?_
      refine thenX ?_
      refine inBlkE ?_
      refine thenN ?_
      refine wp_stmt [.val ((QQ (nmP D x L n k0) (nmQ D k0)) w.heap.size), .val ((QQ (nmS D x L n k0) (dN D (k0 + 1))) w.heap.size), .val ((QQ (nmS D x L n k0 * nmS D x L n k0) (dN D (k0 + 1) * dN D (k0 + 1))) w.heap.size), .val (SF [(Vv nD D K), (Mv nL L K)]), .val (iV (k0 : Nat)), .val ((QQ (D.getD (k0 + 1) 0) (dN D k0)) w.heap.size), .val ((QQ (nmS D x L n k0 * nmS D x L n k0) (dN D k0 * dN D (k0 + 1))) w.heap.size), .val ((QQ (nmP D x L n (k0 + 1)) (nmQ D (k0 + 1))) w.heap.size), .put (.inl 5) (.box 30 ((QQ (nmP D x L n (k0 + 1)) (nmQ D (k0 + 1))) w.heap.size))] [.inr 0, .inr 1, .inr 2, .inr 3] [.inr 1, .inr 2, .inr 3] follows S10 rfl (by kernel_rfl) ?_ ?_
      · repeat' refine And.intro ?_ ?_
        · trivial
        · exact lod 2 wA (loads_of strct_rat shp_qq)
        · exact lod 3 wA (loads_of strct_rat shp_qq)
        · exact ch1 wA (qO 1 42 rfl) (fresh_qq _ _) (fun w u h1 => rsquare_w w u _ _ _ h1 hz1 (Nat.le_trans hSk (by omega)) (by omega))
        · exact lod 0 wA (loads_of strct_gso shp_sf2)
        · exact mS 2 6
        · exact ch2 wA (qO 3 44 rfl) (qO 4 45 rfl) (fresh_qq _ _) (fun w u a h ha => by obtain rfl : a = _ := ha.now; exact rstar_m w u nD nL K D L h hD hL hK lD lL k0 (dN D k0) g (by omega) hd0 hz0)
        · exact cc2 wA (qO 2 43 rfl) (qO 5 46 rfl) (fresh_qq _ _) (fun w u v h1 h2 => Gives.cast (ψ := QQ (nmS D x L n k0 * nmS D x L n k0) (dN D k0 * dN D (k0 + 1))) (q_rmul (k := 8388608) (k' := 8388608) (Nat.mul_ne_zero hz1 hz1) hz0 (by omega) (Nat.le_trans (digs_mul_len (Nat.le_refl _) (Nat.le_refl _)) (by omega)) (by omega) (by omega) (Nat.le_refl _) (Nat.le_refl _) w u v h1 h2) (by rw [hd1]; exact part_eq hz0 hz1))
        · exact cc2 wA (qO 0 41 rfl) (qO 6 47 rfl) (fresh_qq _ _) (fun w u v h1 h2 => q_radd (k := 8388608) (k' := 8388608) hnq (Nat.mul_ne_zero hz0 hz1) (hPd k0 (by omega)) (Nat.le_trans (hQd k0 (by omega)) (by omega)) (by omega) (by omega) (Nat.le_refl _) (Nat.le_refl _) w u v h1 h2)
        · exact owe_set rfl wA rfl (k := 2) rfl (by kernel_rfl) (oO 7 48) (stores_of strct_rat shp_qq shp_qq) rfl
      intro B11 a11 W11 (S11 : Sta w 50 [(2, (.box 25 (SF [(Vv nD D K), (Mv nL L K)]))), (4, (.box 30 zR)), (5, (.box 30 ((QQ (nmP D x L n (k0 + 1)) (nmQ D (k0 + 1))) w.heap.size))), (7, (.box 30 ((QQ (nmS D x L n k0) (dN D (k0 + 1))) w.heap.size)))] [(8, Is (.int .i64 ((k0 + 1 + (n - 1 - k0) : Nat) : Int))), (6, iV (k0 : Nat)), (1, Vv n x K)] _ _ _)
      refine inBlkN ?_
      refine thenN ?_
      refine wp_stmt [.val (iV (k0 : Nat)), .val (iV (k0 + 1 : Nat)), .val (iV (k0 + 1 : Nat))] [.inr 0, .inr 1, .inr 2, .inr 3] [.inl 2, .inr 0, .inr 2] follows S11 rfl (by kernel_rfl) ?_ ?_
      · refine ⟨⟨⟨trivial, ?_⟩, ?_⟩, ?_⟩
        · exact mS 1 6
        · exact b_add_int wA (oO 0 15) (opnd_const _)
        · exact mO 1 16
      intro B12 a12 W12 (S12 : Sta w 50 [(2, (.box 25 (SF [(Vv nD D K), (Mv nL L K)]))), (4, (.box 30 zR)), (5, (.box 30 ((QQ (nmP D x L n (k0 + 1)) (nmQ D (k0 + 1))) w.heap.size))), (7, (.box 30 ((QQ (nmS D x L n k0) (dN D (k0 + 1))) w.heap.size)))] [(6, iV (k0 + 1 : Nat)), (8, Is (.int .i64 ((k0 + 1 + (n - 1 - k0) : Nat) : Int))), (1, Vv n x K)] _ _ _)
      refine thenN ?_
      exact ⟨k0 + 1, ⟨by omega, B12, S12.sub [0, 1, 2] [0, 2]⟩, by omega⟩
  · have ek : k0 = n := by omega
    rw [ek] at S5
    refine wp_seq ?_
    refine wp_stmt_seq [.val (iV (n : Nat)), .val (Vv n x K), .val (iV (n : Nat)), kF] [.inr 0, .inr 1, .inr 2] [.inl 3, .inr 0, .inr 1] follows S5 rfl (by kernel_rfl) ?_ ?_
    · refine ⟨⟨⟨⟨trivial, ?_⟩, ?_⟩, ?_⟩, ?_⟩
      · exact mS 0 6
      · exact mS 1 1
      · exact owe_len rfl wA rfl (oO 1 12) ar_len Tryz.underlying22 rfl
      · exact b_lss_int_f wA (oO 0 11) (oO 2 13)
    intro B6 a6 W6 (S6 : Sta w 50 [(2, (.box 25 (SF [(Vv nD D K), (Mv nL L K)]))), (4, (.box 30 zR)), (5, (.box 30 ((QQ (nmP D x L n n) (nmQ D n)) w.heap.size)))] [(14, bF), (6, iV (n : Nat)), (1, Vv n x K)] _ _ _)
    refine wp_cond_false (S6.bool 0 14 rfl) ?_
    refine wp_exit ?_
    refine thenX ?_
    refine thenX ?_
    refine inBlkE ?_
    refine thenN ?_
    refine wp_stmt_seq [.val ((QQ (nmP D x L n n) (nmQ D n)) w.heap.size), .put (.inl 4) (.box 30 ((QQ (nmP D x L n n) (nmQ D n)) w.heap.size))] [.inr 0, .inr 1, .inr 2] [.inr 1, .inr 2] follows S6 rfl (by kernel_rfl) ?_ ?_
    · refine ⟨⟨trivial, ?_⟩, ?_⟩
      · exact lod 2 wA (loads_of strct_rat shp_qq)
      · exact owe_set rfl wA rfl (k := 1) rfl (by kernel_rfl) (oO 0 49) (stores_of strct_rat shp_r0 shp_qq) rfl
    intro B7 a7 W7 (S7 : Sta w 50 [(2, (.box 25 (SF [(Vv nD D K), (Mv nL L K)]))), (4, (.box 30 ((QQ (nmP D x L n n) (nmQ D n)) w.heap.size))), (5, (.box 30 ((QQ (nmP D x L n n) (nmQ D n)) w.heap.size)))] [(6, iV (n : Nat)), (1, Vv n x K)] _ _ _)
    refine wp_ret ?_
    exact end_one S7 rfl (res_cell S7 1 4 rfl strct_rat shp_qq)

end Go.Proofs.YtkiholgfamfgeaaGreat

/-
  GsoNorms' walk.
-/
namespace Go.Proofs.YtkiholgfamfgeaaGreat
open Go Go.RowKit Nt
set_option linter.unusedSimpArgs false
set_option linter.unusedVariables false
set_option maxRecDepth 20000

set_option maxHeartbeats 4000000 in
theorem norms_1 (w : World) (u v : Value) (nD nL n K : Nat) (D x : List Int) (L : List (List Int)) (h : Hs w (SF [Vv nD D K, Mv nL L K]) u) (hv : Hs w (Vv n x K) v) (hD : nD ≤ 1048576) (hL : nL ≤ 1048576) (hn : n ≤ 1048576) (hK : K ≤ 1048576) (lD : D.length = nD) (lL : L.length = nL) (lx : x.length = n) (g : Bad D L) :
    Calls Tryz.prog 4 #[u, v] w (Gives (IS (.bool true)) w) := by
  refine calls_sta (sl := [(0, (SF [(Vv nD D K), (Mv nL L K)])), (1, (Vv n x K))]) Tryz.func4 rfl Tryz.ntmps4 (by simp) (args_cons rfl (h) (args_cons rfl (hv) args_nil)) ?_
  intro a0 S0
  refine wp_stmt_seq [.new (.box 25 (SF [(Vv nD D K), (Mv nL L K)])), kF] [.inl 0] [.inr 1] follows S0 rfl (by kernel_rfl) ?_ ?_
  · refine ⟨⟨trivial, ?_⟩, ?_⟩
    · exact owe_box rfl wA rfl (oS 0 0) rfl (fun ρ w h => box_gso shp_sf2 ρ _ _ w h)
    · exact mC
  intro B1 a1 W1 (S1 : Sta w 54 [(2, (.box 25 (SF [(Vv nD D K), (Mv nL L K)])))] [(1, Vv n x K)] _ _ _)
  refine wp_stmt_seq [.val (SF [(Vv nD D K), (Mv nL L K)]), .val (Vv n x K), .val ((TWO (IS (.agg #[.bool false, .slice none 0 0, .bool false, .slice none 0 0])) (IS (.int .i64 51))) w.heap.size), .val ((TWO (IS (.agg #[.bool false, .slice none 0 0, .bool false, .slice none 0 0])) (IS (.int .i64 51))) w.heap.size), .val zR, .val (iV 51), .new (.box 30 zR), .put (.inr 6) (.box 30 zR), .val (iV 51)] [.inr 0, .inl 6] [.inl 8, .inr 0] follows S1 rfl (by kernel_rfl) ?_ ?_
  · repeat' refine And.intro ?_ ?_
    · trivial
    · exact lod 0 wA (loads_of strct_gso shp_sf2)
    · exact mS 0 1
    · exact ch2 wA (qO 0 8 rfl) (qO 1 9 rfl) (fresh_two (fresh_is _) (fresh_is _)) (fun w u v h hv => nrm_b w u v nD nL n K D x L h hv hD hL hn hK lD lL lx g)
    · exact mO 2 10
    · exact e20 wA (oO 3 7)
    · exact e21 wA (oO 3 7)
    · exact owe_new rfl wA rfl rfl (fun ρ w => alloc_rat ρ _ w)
    · exact owe_put 6 rfl wA rfl (by kernel_rfl) rfl (oO 4 11) (stores_of strct_rat shp_r0 shp_r0) rfl
    · exact mO 5 12
  intro B2 a2 W2 (S2 : Sta w 54 [(2, (.box 25 (SF [(Vv nD D K), (Mv nL L K)]))), (5, (.box 30 zR))] [(6, iV 51), (1, Vv n x K)] _ _ _)
  refine wp_seq ?_
  refine wp_stmt_seq [.val (SF [(Vv nD D K), (Mv nL L K)]), kF, kT] [.inr 0, .inr 1] [.inl 2, .inr 0, .inr 1] follows S2 rfl (by kernel_rfl) ?_ ?_
  · refine ⟨⟨⟨trivial, ?_⟩, ?_⟩, ?_⟩
    · exact lod 0 wA (loads_of strct_gso shp_sf2)
    · exact ch1 wA (qO 0 13 rfl) (fresh_is _) (fun w u h => good_f w u nD nL K D L h hD hL hK lD lL g)
    · exact b_not wA (oO 1 14)
  intro B3 a3 W3 (S3 : Sta w 54 [(2, (.box 25 (SF [(Vv nD D K), (Mv nL L K)]))), (5, (.box 30 zR))] [(15, bT), (6, iV 51), (1, Vv n x K)] _ _ _)
  refine wp_cond_true (S3.bool 0 15 rfl) ?_
  refine wp_stmt_seq [.val (iV 51), kT, kT, .val zR, .val zR, kT, kT, kT, kT, kT, kT] [.inr 0] [.inl 10] follows S3 rfl (by kernel_rfl) ?_ ?_
  · repeat' refine And.intro ?_ ?_
    · trivial
    · exact mS 1 6
    · exact b_eql_errno_t wA (oO 0 16) (opnd_const _) (h := rfl)
    · exact mO 1 17
    · exact lod 1 (wI 2 18) (loads_of strct_rat shp_r0)
    · exact owe_build_rat rfl (wI 2 18) rfl rfl
    · exact ch2 (wI 2 18) ((qO 3 19 rfl).imp z_nmx) ((qO 4 20 rfl).imp z_nmx) (fresh_is _) (fun w u v h h' => gsame_w w u v _ _ _ _ h h')
    · exact pT wA (oO 2 18) (oO 5 21)
    · exact mO 6 22
    · exact owe_call0 rfl (wI 7 23) rfl  (fresh_is _) rfl (fun args w => by go_simp) (fun w => gawake_w w)
    · exact pT wA (oO 7 23) (oO 8 24)
    · exact mO 9 25
  intro B4 a4 W4 (S4 : Sta w 54 [(2, (.box 25 (SF [(Vv nD D K), (Mv nL L K)])))] [(4, bT)] _ _ _)
  refine wp_ret ?_
  refine thenR ?_
  exact end_one S4 rfl (res_tmp S4 0 4 rfl)

set_option maxHeartbeats 4000000 in
theorem norms_2 (w : World) (u v : Value) (nD nL n K : Nat) (D x : List Int) (L : List (List Int)) (h : Hs w (SF [Vv nD D K, Mv nL L K]) u) (hv : Hs w (Vv n x K) v) (hD : nD ≤ 1048576) (hL : nL ≤ 1048576) (hn : n ≤ 1048576) (hK : K ≤ 1048576) (lD : D.length = nD) (lL : L.length = nL) (lx : x.length = n) (g : Good D L) (hne : n ≠ nL) :
    Calls Tryz.prog 4 #[u, v] w (Gives (IS (.bool true)) w) := by
  refine calls_sta (sl := [(0, (SF [(Vv nD D K), (Mv nL L K)])), (1, (Vv n x K))]) Tryz.func4 rfl Tryz.ntmps4 (by simp) (args_cons rfl (h) (args_cons rfl (hv) args_nil)) ?_
  intro a0 S0
  refine wp_stmt_seq [.new (.box 25 (SF [(Vv nD D K), (Mv nL L K)])), kF] [.inl 0] [.inr 1] follows S0 rfl (by kernel_rfl) ?_ ?_
  · refine ⟨⟨trivial, ?_⟩, ?_⟩
    · exact owe_box rfl wA rfl (oS 0 0) rfl (fun ρ w h => box_gso shp_sf2 ρ _ _ w h)
    · exact mC
  intro B1 a1 W1 (S1 : Sta w 54 [(2, (.box 25 (SF [(Vv nD D K), (Mv nL L K)])))] [(1, Vv n x K)] _ _ _)
  refine wp_stmt_seq [.val (SF [(Vv nD D K), (Mv nL L K)]), .val (Vv n x K), .val ((TWO (IS (.agg #[.bool false, .slice none 0 0, .bool false, .slice none 0 0])) (IS (.int .i64 8))) w.heap.size), .val ((TWO (IS (.agg #[.bool false, .slice none 0 0, .bool false, .slice none 0 0])) (IS (.int .i64 8))) w.heap.size), .val zR, .val (iV 8), .new (.box 30 zR), .put (.inr 6) (.box 30 zR), .val (iV 8)] [.inr 0, .inl 6] [.inl 8, .inr 0] follows S1 rfl (by kernel_rfl) ?_ ?_
  · repeat' refine And.intro ?_ ?_
    · trivial
    · exact lod 0 wA (loads_of strct_gso shp_sf2)
    · exact mS 0 1
    · exact ch2 wA (qO 0 8 rfl) (qO 1 9 rfl) (fresh_two (fresh_is _) (fresh_is _)) (fun w u v h hv => nrm_s w u v nD nL n K D x L h hv hD hL hn hK lD lL lx g hne)
    · exact mO 2 10
    · exact e20 wA (oO 3 7)
    · exact e21 wA (oO 3 7)
    · exact owe_new rfl wA rfl rfl (fun ρ w => alloc_rat ρ _ w)
    · exact owe_put 6 rfl wA rfl (by kernel_rfl) rfl (oO 4 11) (stores_of strct_rat shp_r0 shp_r0) rfl
    · exact mO 5 12
  intro B2 a2 W2 (S2 : Sta w 54 [(2, (.box 25 (SF [(Vv nD D K), (Mv nL L K)]))), (5, (.box 30 zR))] [(6, iV 8), (1, Vv n x K)] _ _ _)
  refine wp_seq ?_
  refine wp_stmt_seq [.val (SF [(Vv nD D K), (Mv nL L K)]), kT, kF] [.inr 0, .inr 1] [.inl 2, .inr 0, .inr 1] follows S2 rfl (by kernel_rfl) ?_ ?_
  · refine ⟨⟨⟨trivial, ?_⟩, ?_⟩, ?_⟩
    · exact lod 0 wA (loads_of strct_gso shp_sf2)
    · exact ch1 wA (qO 0 13 rfl) (fresh_is _) (fun w u h => good_t w u nD nL K D L h hD hL hK lD lL g)
    · exact b_not wA (oO 1 14)
  intro B3 a3 W3 (S3 : Sta w 54 [(2, (.box 25 (SF [(Vv nD D K), (Mv nL L K)]))), (5, (.box 30 zR))] [(15, bF), (6, iV 8), (1, Vv n x K)] _ _ _)
  refine wp_cond_false (S3.bool 0 15 rfl) ?_
  refine wp_skip ?_
  refine thenN ?_
  refine wp_seq ?_
  refine wp_stmt_seq [.val (Vv n x K), .val (iV (n : Nat)), .val (Part a3 2 1), .val (Mv nL L K), .val (iV (nL : Nat)), kT] [.inr 0, .inr 1] [.inl 5, .inr 1, .inr 2] follows S3 rfl (by kernel_rfl) ?_ ?_
  · refine ⟨⟨⟨⟨⟨⟨trivial, ?_⟩, ?_⟩, ?_⟩, ?_⟩, ?_⟩, ?_⟩
    · exact mS 2 1
    · exact owe_len rfl wA rfl (oO 0 26) ar_len Tryz.underlying22 rfl
    · exact owe_part rfl wA rfl (k := 0) rfl (by kernel_rfl) rfl (fun ρ w b h => part_gso1 ρ _ _ w b 0 h)
    · exact owe_pload rfl wA rfl (oO 2 28) (k := 0) rfl (by kernel_rfl) rfl (fun ρ w b u h1 h2 h3 => ploadS rfl load1_mat ρ _ _ w b u h1 h2 h3)
    · exact owe_len rfl wA rfl (oO 3 29) ar_len Tryz.underlying23 rfl
    · exact b_neq_int_t wA (oO 1 27) (oO 4 30)
  intro B4 a4 W4 (S4 : Sta w 54 [(2, (.box 25 (SF [(Vv nD D K), (Mv nL L K)]))), (5, (.box 30 zR))] [(31, bT), (6, iV 8), (1, Vv n x K)] _ _ _)
  refine wp_cond_true (S4.bool 0 31 rfl) ?_
  refine wp_stmt_seq [.val (iV 8), kT, kT, .val zR, .val zR, kT, kT, kT, kT, kT, kT] [.inr 0] [.inl 10] follows S4 rfl (by kernel_rfl) ?_ ?_
  · repeat' refine And.intro ?_ ?_
    · trivial
    · exact mS 1 6
    · exact b_eql_errno_t wA (oO 0 32) (opnd_const _) (h := rfl)
    · exact mO 1 33
    · exact lod 1 (wI 2 34) (loads_of strct_rat shp_r0)
    · exact owe_build_rat rfl (wI 2 34) rfl rfl
    · exact ch2 (wI 2 34) ((qO 3 35 rfl).imp z_nmx) ((qO 4 36 rfl).imp z_nmx) (fresh_is _) (fun w u v h h' => gsame_w w u v _ _ _ _ h h')
    · exact pT wA (oO 2 34) (oO 5 37)
    · exact mO 6 38
    · exact owe_call0 rfl (wI 7 39) rfl  (fresh_is _) rfl (fun args w => by go_simp) (fun w => gawake_w w)
    · exact pT wA (oO 7 39) (oO 8 40)
    · exact mO 9 41
  intro B5 a5 W5 (S5 : Sta w 54 [(2, (.box 25 (SF [(Vv nD D K), (Mv nL L K)])))] [(4, bT)] _ _ _)
  refine wp_ret ?_
  refine thenR ?_
  exact end_one S5 rfl (res_tmp S5 0 4 rfl)

set_option maxHeartbeats 4000000 in
theorem norms_3 (w : World) (u v : Value) (nD nL n K : Nat) (D x : List Int) (L : List (List Int)) (h : Hs w (SF [Vv nD D K, Mv nL L K]) u) (hv : Hs w (Vv n x K) v) (hD : nD ≤ 1048576) (hL : nL ≤ 1048576) (hn : n ≤ 1048576) (hK : K ≤ 1048576) (lD : D.length = nD) (lL : L.length = nL) (lx : x.length = n) (g : Good D L) (en : nL = n) (dD : Dl D K) (dx : Dl x K) (dL : Mdl L K) (hKn : K + n ≤ 1048576) (hW : wtD D (n + 1) ≤ 1048576) :
    Calls Tryz.prog 4 #[u, v] w (Gives (IS (.bool true)) w) := by
  refine calls_sta (sl := [(0, (SF [(Vv nD D K), (Mv nL L K)])), (1, (Vv n x K))]) Tryz.func4 rfl Tryz.ntmps4 (by simp) (args_cons rfl (h) (args_cons rfl (hv) args_nil)) ?_
  intro a0 S0
  refine wp_stmt_seq [.new (.box 25 (SF [(Vv nD D K), (Mv nL L K)])), kF] [.inl 0] [.inr 1] follows S0 rfl (by kernel_rfl) ?_ ?_
  · refine ⟨⟨trivial, ?_⟩, ?_⟩
    · exact owe_box rfl wA rfl (oS 0 0) rfl (fun ρ w h => box_gso shp_sf2 ρ _ _ w h)
    · exact mC
  intro B1 a1 W1 (S1 : Sta w 54 [(2, (.box 25 (SF [(Vv nD D K), (Mv nL L K)])))] [(1, Vv n x K)] _ _ _)
  refine wp_stmt_seq [.val (SF [(Vv nD D K), (Mv nL L K)]), .val (Vv n x K), .val ((TWO (QQ (nmP D x L n n) (nmQ D n)) (IS (.int .i64 0))) w.heap.size), .val ((TWO (QQ (nmP D x L n n) (nmQ D n)) (IS (.int .i64 0))) w.heap.size), .val ((QQ (nmP D x L n n) (nmQ D n)) w.heap.size), .val (iV 0), .new (.box 30 zR), .put (.inr 6) (.box 30 ((QQ (nmP D x L n n) (nmQ D n)) w.heap.size)), .val (iV 0)] [.inr 0, .inl 6] [.inl 8, .inr 0] follows S1 rfl (by kernel_rfl) ?_ ?_
  · repeat' refine And.intro ?_ ?_
    · trivial
    · exact lod 0 wA (loads_of strct_gso shp_sf2)
    · exact mS 0 1
    · exact ch2 wA (qO 0 8 rfl) (qO 1 9 rfl) (fresh_two (fresh_qq _ _) (fresh_is _)) (fun w u v h hv => nrm_w w u v nD nL n K D x L h hv hD hL hn hK lD lL lx g en dD dx dL hKn hW)
    · exact mO 2 10
    · exact e20 wA (oO 3 7)
    · exact e21 wA (oO 3 7)
    · exact owe_new rfl wA rfl rfl (fun ρ w => alloc_rat ρ _ w)
    · exact owe_put 6 rfl wA rfl (by kernel_rfl) rfl (oO 4 11) (stores_of strct_rat shp_r0 shp_qq) rfl
    · exact mO 5 12
  intro B2 a2 W2 (S2 : Sta w 54 [(2, (.box 25 (SF [(Vv nD D K), (Mv nL L K)]))), (5, (.box 30 ((QQ (nmP D x L n n) (nmQ D n)) w.heap.size)))] [(6, iV 0), (1, Vv n x K)] _ _ _)
  refine wp_seq ?_
  refine wp_stmt_seq [.val (SF [(Vv nD D K), (Mv nL L K)]), kT, kF] [.inr 0, .inr 1] [.inl 2, .inr 0, .inr 1] follows S2 rfl (by kernel_rfl) ?_ ?_
  · refine ⟨⟨⟨trivial, ?_⟩, ?_⟩, ?_⟩
    · exact lod 0 wA (loads_of strct_gso shp_sf2)
    · exact ch1 wA (qO 0 13 rfl) (fresh_is _) (fun w u h => good_t w u nD nL K D L h hD hL hK lD lL g)
    · exact b_not wA (oO 1 14)
  intro B3 a3 W3 (S3 : Sta w 54 [(2, (.box 25 (SF [(Vv nD D K), (Mv nL L K)]))), (5, (.box 30 ((QQ (nmP D x L n n) (nmQ D n)) w.heap.size)))] [(15, bF), (6, iV 0), (1, Vv n x K)] _ _ _)
  refine wp_cond_false (S3.bool 0 15 rfl) ?_
  refine wp_skip ?_
  refine thenN ?_
  refine wp_seq ?_
  refine wp_stmt_seq [.val (Vv n x K), .val (iV (n : Nat)), .val (Part a3 2 1), .val (Mv nL L K), .val (iV (nL : Nat)), kF] [.inr 0, .inr 1] [.inl 5, .inr 1, .inr 2] follows S3 rfl (by kernel_rfl) ?_ ?_
  · refine ⟨⟨⟨⟨⟨⟨trivial, ?_⟩, ?_⟩, ?_⟩, ?_⟩, ?_⟩, ?_⟩
    · exact mS 2 1
    · exact owe_len rfl wA rfl (oO 0 26) ar_len Tryz.underlying22 rfl
    · exact owe_part rfl wA rfl (k := 0) rfl (by kernel_rfl) rfl (fun ρ w b h => part_gso1 ρ _ _ w b 0 h)
    · exact owe_pload rfl wA rfl (oO 2 28) (k := 0) rfl (by kernel_rfl) rfl (fun ρ w b u h1 h2 h3 => ploadS rfl load1_mat ρ _ _ w b u h1 h2 h3)
    · exact owe_len rfl wA rfl (oO 3 29) ar_len Tryz.underlying23 rfl
    · exact b_neq_int_f wA (oO 1 27) (oO 4 30)
  intro B4 a4 W4 (S4 : Sta w 54 [(2, (.box 25 (SF [(Vv nD D K), (Mv nL L K)]))), (5, (.box 30 ((QQ (nmP D x L n n) (nmQ D n)) w.heap.size)))] [(31, bF), (6, iV 0), (1, Vv n x K)] _ _ _)
  refine wp_cond_false (S4.bool 0 31 rfl) ?_
  refine wp_skip ?_
  refine thenN ?_
  refine wp_stmt_seq [.val (iV 0), kT, kT, .val ((QQ (nmP D x L n n) (nmQ D n)) w.heap.size), .val (SF [(Vv nD D K), (Mv nL L K)]), .val (Vv n x K), .val ((QQ (nmP D x L n n) (nmQ D n)) w.heap.size), kT, kT, kT, kT, kT, kT] [.inr 0] [.inl 12] follows S4 rfl (by kernel_rfl) ?_ ?_
  · repeat' refine And.intro ?_ ?_
    · trivial
    · exact mS 1 6
    · exact b_eql_errno_t wA (oO 0 42) (opnd_const _) (h := rfl)
    · exact mO 1 43
    · exact lod 1 (wI 2 44) (loads_of strct_rat shp_qq)
    · exact lod 0 (wI 2 44) (loads_of strct_gso shp_sf2)
    · exact mW (wI 2 44) (oS 2 1)
    · exact ch2 (wI 2 44) (qO 4 46 rfl) (qO 5 47 rfl) (fresh_qq _ _) (fun w u v h hv => rnrm_w w u v nD nL n K D x L h hv hD hL hn hK lD lL lx g en dD dx dL hKn hW)
    · exact ch2 (wI 2 44) ((qO 3 45 rfl).imp (fun v w h => rn_nmx v w h)) ((qO 6 48 rfl).imp (fun v w h => rn_nmx v w h)) (fresh_is _) (fun w u v h h' => gsame_w w u v _ _ _ _ h h')
    · exact pT wA (oO 2 44) (oO 7 49)
    · exact mO 8 50
    · exact owe_call0 rfl (wI 9 51) rfl  (fresh_is _) rfl (fun args w => by go_simp) (fun w => gawake_w w)
    · exact pT wA (oO 9 51) (oO 10 52)
    · exact mO 11 53
  intro B5 a5 W5 (S5 : Sta w 54 [(2, (.box 25 (SF [(Vv nD D K), (Mv nL L K)])))] [(4, bT)] _ _ _)
  refine wp_ret ?_
  exact end_one S5 rfl (res_tmp S5 0 4 rfl)


theorem gsonorms_w (w : World) (u v : Value) (nD nL n K : Nat) (D x : List Int) (L : List (List Int)) (h : Hs w (SF [Vv nD D K, Mv nL L K]) u) (hv : Hs w (Vv n x K) v) (hD : nD ≤ 1048576) (hL : nL ≤ 1048576) (hn : n ≤ 1048576) (hK : K ≤ 1048576) (lD : D.length = nD) (lL : L.length = nL) (lx : x.length = n) (hKn : K + n ≤ 1048576) (hW : wtD D (n + 1) ≤ 1048576) : Calls Tryz.prog 4 #[u, v] w (Gives (IS (.bool true)) w) := by
  rcases good_or D L with g | g
  · by_cases e : n = nL
    · have dD : Dl D K := by
        obtain ⟨cs, _, _, _, hp⟩ := h.now
        obtain ⟨v, _, hv⟩ := hp 0 _ rfl
        exact vv_dl hv
      exact norms_3 w u v nD nL n K D x L h hv hD hL hn hK lD lL lx g e.symm dD (vv_dl hv.now) (sf_mdl h.now) hKn hW
    · exact norms_2 w u v nD nL n K D x L h hv hD hL hn hK lD lL lx g e
  · exact norms_1 w u v nD nL n K D x L h hv hD hL hn hK lD lL lx g
/-! What is held together. -/
theorem take_sum (l : List Nat) (k : Nat) : (l.take k).sum ≤ l.sum := by
  have h : (l.take k ++ l.drop k).sum = l.sum := by rw [List.take_append_drop]
  rw [List.sum_append] at h
  omega
theorem wtD_sum {D : List Int} {l : List Nat} (hl : l.length = D.length) (h : ∀ i, i < D.length → (digs (D.getD i 0).natAbs).length ≤ l.getD i 0) : ∀ k, wtD D k ≤ (l.take k).sum
  | 0 => Nat.zero_le _
  | k + 1 => by
    have ih := wtD_sum hl h k
    simp only [wtD]
    rcases Nat.lt_or_ge k D.length with hk | hk
    · have h1 := h k hk
      rw [List.take_add_one, List.getElem?_eq_getElem (by omega)]
      rw [List.getD_eq_getElem?_getD, List.getD_eq_getElem?_getD, List.getElem?_eq_getElem (show k < l.length by omega)] at h1
      rw [List.sum_append]
      rw [List.getD_eq_getElem?_getD]
      simp only [Option.getD_some, Option.toList_some, List.sum_cons, List.sum_nil] at h1 ⊢
      omega
    · rw [List.getD_eq_getElem?_getD, List.getElem?_eq_none hk]
      have e0 : (digs ((none : Option Int).getD 0).natAbs).length = 0 := by show (digs (0 : Int).natAbs).length = 0; rw [show (0 : Int).natAbs = 0 from rfl, digs_zero]; rfl
      rw [e0, List.take_of_length_le (by omega)]
      rw [List.take_of_length_le (by omega)] at ih
      omega
theorem one_sum {es : List El} {i : Nat} {e : El} (h : es[i]? = some e) : e.c + es.length ≤ (es.map (fun e => e.c + 1)).sum := by
  induction es generalizing i with
  | nil => simp at h
  | cons a r ih =>
    have hr : r.length ≤ (r.map (fun e => e.c + 1)).sum := by
      clear ih h
      induction r with
      | nil => simp
      | cons b s ih => simp only [List.map_cons, List.sum_cons, List.length_cons]; omega
    cases i with
    | zero => simp at h; subst h; simp only [List.map_cons, List.sum_cons, List.length_cons]; omega
    | succ i => have := ih (i := i) (by simpa using h); simp only [List.map_cons, List.sum_cons, List.length_cons]; omega
theorem len_sum (es : List El) : es.length ≤ (es.map (fun e => e.c + 1)).sum := by
  induction es with
  | nil => simp
  | cons b s ih => simp only [List.map_cons, List.sum_cons, List.length_cons]; omega
theorem el_dl {w : World} {p : Option Addr} {n c : Nat} {es : List El} (s : Ls w p n c es) (i : Nat) (hi : i < es.length) : (digs ((es.map El.z).getD i 0).natAbs).length ≤ (es.map (fun e => e.c + 1)).getD i 0 := by
  obtain ⟨b, o, _, _, _, hs⟩ := s.lie i _ (List.getElem?_eq_getElem hi)
  have h1 := hs.dl
  have h2 := hs.cap
  rw [List.getD_eq_getElem?_getD, List.getD_eq_getElem?_getD, List.getElem?_map, List.getElem?_map, List.getElem?_eq_getElem hi]
  simp only [Option.map_some, Option.getD_some]
  rw [show (El.z es[i]).natAbs = val (es[i]).xs from sg_abs _ _]
  omega
theorem gsonorms_walk (w : World) (a : Option Addr) (n c : Nat) (es : List El) (b : Option Addr) (m d : Nat) (rs : List Rw) (a1 : Option Addr) (n1 c1 : Nat) (fs : List El) (s0 : Ls w a n c es) (z0 : Ms w b m d rs) (s1 : Ls w a1 n1 c1 fs) (B0 B1 B2 : Nat) (t0 : (es.map (fun e => e.c + 1)).sum ≤ B0) (y0 : d ≤ B1) (yy0 : ∀ (i : Nat) (r : Rw), rs[i]? = some r → r.c ≤ B1 ∧ ∀ (j : Nat) (e : El), r.es[j]? = some e → e.c ≤ B1) (t1 : (fs.map (fun e => e.c + 1)).sum ≤ B2) (hB : B0 + B1 + B2 ≤ 1048576) :
    Calls Tryz.prog 4 #[.agg #[.slice a n c, .slice b m d], .slice a1 n1 c1] w fun e w' => e = .returned (.bool true) ∧ Below w.heap.size w w' := by
  have l0 := s0.len
  have l1 := s1.len
  have q0 := len_sum es
  have q1 := len_sum fs
  have q2 := z0.cap
  have hh := gso_hs (k := 1048576 - n1) s0 z0 (fun i e he => by have := one_sum he; omega) (fun i r hr => ⟨by have := (yy0 i r hr).1; omega, fun j e he => by have := (yy0 i r hr).2 j e he; omega⟩)
  have hv : Hs w (Vv n1 (fs.map El.z) (1048576 - n1)) (.slice a1 n1 c1) := fun w' ev => vx_vv (fun i x hx => by
    obtain ⟨_, _, _, _, _, hs⟩ := s1.lie i x hx
    have := hs.cap
    have := one_sum hx
    omega) _ w' (ls_hs s1 w' ev)
  have hw : wtD (es.map El.z) (n1 + 1) ≤ 1048576 := by
    have h1 := wtD_sum (D := es.map El.z) (l := es.map (fun e => e.c + 1)) (by simp) (fun i hi => el_dl s0 i (by simpa using hi)) (n1 + 1)
    have h2 := take_sum (es.map (fun e => e.c + 1)) (n1 + 1)
    omega
  refine (gsonorms_w w _ _ n m n1 (1048576 - n1) _ _ _ hh hv (by omega) (by omega) (by omega) (by omega) (by simp [l0]) (by simp [zz, z0.len]) (by simp [l1]) (by omega) hw).mono ?_
  rintro e w' ⟨v, rfl, hb, hv⟩
  obtain rfl : v = _ := hv
  exact ⟨rfl, hb⟩
end Go.Proofs.YtkiholgfamfgeaaGreat
