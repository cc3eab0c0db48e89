import Derived.Test.YtdlhgmfahdbgmaaFiA
import Derived.Test.YtdlhgmfahdbgmaaFiC
import Derived.Test.YtdlhgmfahdbgmaaDtA
import Derived.Test.YtdlhgmfahdbgmaaFiB
import Derived.Test.YtdlhgmfahdbgmaaGsD
/-
  The norm of all numbers is the squared length of the vector.
-/
namespace Go.Proofs.Ytdlhgmfahdbgmaa
open Go Go.RowKit Nt
set_option linter.unusedSimpArgs false
set_option linter.unusedVariables false
set_option maxRecDepth 20000

/-- The numbers from the last one back. -/
def rvL (x : List Int) (n : Nat) : Nat → List Int
  | 0 => []
  | k + 1 => rvL x n k ++ [x.getD (n - 1 - k) 0]
theorem rvL_len (x : List Int) (n : Nat) : ∀ k, (rvL x n k).length = k
  | 0 => rfl
  | k + 1 => by simp [rvL, rvL_len x n k]
theorem rvL_get {x : List Int} {n : Nat} : ∀ {m k : Nat}, k < m → (rvL x n m)[k]? = some (x.getD (n - 1 - k) 0)
  | m + 1, k, h => by
    have hl := rvL_len x n m
    rw [rvL]
    rcases Nat.lt_or_ge k m with h1 | h1
    · rw [List.getElem?_append_left (by omega)]
      exact rvL_get h1
    · obtain rfl : k = m := by omega
      rw [List.getElem?_append_right (by omega), hl, Nat.sub_self]
      rfl
theorem getD_of {α : Type} {l : List α} {k : Nat} {z d : α} (h : l[k]? = some z) : l.getD k d = z := by rw [List.getD_eq_getElem?_getD, h]; rfl
abbrev shR (x : List Int) (n : Nat) : List Int := shL (rvL x n n) 1 (List.replicate n 0) n n
theorem shR_at (x : List Int) (n : Nat) {k : Nat} (hk : k < n) : (shR x n).getD k 0 = x.getD (n - 1 - k) 0 := by
  rw [getD_of (shL_get hk), getD_of (rvL_get hk), getD_of (l := List.replicate n (0 : Int)) (z := 0) (by rw [List.getElem?_replicate, if_pos (by omega)])]
  omega
theorem shR_dl {x : List Int} {n K : Nat} (h : Dl x K) : Dl (shR x n) K := fun i z hz => by
  have hl : (shR x n).length = n := shL_len (rvL x n n) 1 (List.replicate n 0) n n
  have hi : i < n := by have := (List.getElem?_eq_some_iff.1 hz).1; omega
  rw [← getD_of (d := 0) hz, shR_at x n hi]
  exact dl_getD h _
theorem fbL_sm (sh : List Int) (L : List (List Int)) (n i : Nat) : ∀ k, sumZ (fbL sh L n i k) = Dt.sm (fun j => sh.getD j 0 * (L.getD (n - 1 - j) []).getD i 0) k
  | 0 => rfl
  | k + 1 => by
    rw [fbL, sumZ_append, fbL_sm sh L n i k, Dt.sm_split]
    simp only [sumZ]
    omega
theorem bhL_sm (x : List Int) (L : List (List Int)) (i : Nat) : ∀ k, sumZ (bhL x L i k) = Dt.sm (fun t => x.getD (i + 1 + t) 0 * (L.getD (i + 1 + t) []).getD i 0) k
  | 0 => rfl
  | k + 1 => by
    rw [bhL, sumZ_append, bhL_sm x L i k, Dt.sm_split]
    simp only [sumZ]
    omega
theorem sm_rev (g : Nat → Int) : ∀ k, Dt.sm (fun j => g (k - 1 - j)) k = Dt.sm g k
  | 0 => rfl
  | k + 1 => by
    rw [Dt.sm_front, Dt.sm_split, ← sm_rev g k, Dt.sm_congr (f := fun i => g (k + 1 - 1 - (i + 1))) (g := fun j => g (k - 1 - j)) (fun i hi => by rw [show k + 1 - 1 - (i + 1) = k - 1 - i by omega])]
    simp only [Nat.add_sub_cancel, Nat.sub_zero]
    omega
theorem fW_rev {D x : List Int} {L : List (List Int)} {n k : Nat} (hk : k < n) : fW D (shR x n) L n k = nmS D x L n (n - 1 - k) := by
  unfold fW nmS nmT
  rw [shR_at x n hk, fbL_sm, bhL_sm, show n - 1 - (n - 1 - k) = k by omega, ← sm_rev _ k]
  congr 1
  refine Dt.sm_congr (fun j hj => ?_)
  rw [shR_at x n (by omega), show n - 1 - (k - 1 - j) = n - 1 - k + 1 + j by omega]
/-- Forth and back: one sum. -/
theorem fP_nmP {D x : List Int} {L : List (List Int)} {n : Nat} : fP D (shR x n) L n n * (nmQ D n : Int) = nmP D x L n n * (fQ D n n : Int) := by
  refine sum_back (a := fun k => nmS D x L n k * nmS D x L n k) (b := fun k => ((dN D k * dN D (k + 1) : Nat) : Int)) (P := nmP D x L n) (Q := fun k => (nmQ D k : Int)) (F := fP D (shR x n) L n) (G := fun k => (fQ D n k : Int)) (n := n) rfl rfl (fun k _ => rfl) (fun k _ => ?_) rfl rfl (fun k hk => ?_) (fun k hk => ?_)
  · show ((nmQ D k * (dN D k * dN D (k + 1)) : Nat) : Int) = _
    rw [Int.natCast_mul]
  · show fP D (shR x n) L n k * _ + fW D (shR x n) L n k * fW D (shR x n) L n k * _ = _
    rw [fW_rev hk]
  · show ((fQ D n k * (dN D (n - 1 - k) * dN D (n - 1 - k + 1)) : Nat) : Int) = _
    rw [Int.natCast_mul]
/-- The squared length. -/
def lnQ (Bm : List (List Int)) (x : List Int) (n : Nat) : Int := Dt.qd (gr Bm) (fun i => x.getD i 0) n 0
theorem nm_len {Bm : List (List Int)} {x : List Int} {n : Nat} (h : OfOk Bm n) : nmP (gwD Bm n) x (gwL Bm n) n n = lnQ Bm x n * (nmQ (gwD Bm n) n : Int) := by
  have g := gw_good h
  have hl1 := (gw_len Bm n).1
  have hL := gw_lead (fun k hk => h.ne k hk)
  have hi := (gw_is hL).1
  have hd : ∀ k, k ≤ n → (dN (gwD Bm n) k : Int) = Dt.det k (gr Bm) := fun k hk => by rw [← (dN_eq g (i := k) (by omega)).1]; exact hi.d k hk
  have hs : ∀ k, k < n → Dt.sd (gr Bm) (fun i => x.getD i 0) n k = nmS (gwD Bm n) x (gwL Bm n) n k := fun k hk => by
    rw [Dt.sd_from (fun m hm => hL m (by omega)) hk]
    unfold nmS nmT
    rw [bhL_sm, ← hi.d (k + 1) (by omega)]
    congr 1
    refine Dt.sm_congr (fun t ht => ?_)
    rw [hi.l (k + 1 + t) (by omega) k (by omega)]
  refine Dt.norm_len (gr_sym Bm) (x := fun i => x.getD i 0) hL (P := nmP (gwD Bm n) x (gwL Bm n) n) (Q := fun k => (nmQ (gwD Bm n) k : Int)) rfl rfl (fun k hk => ?_) (fun k hk => ?_)
  · rw [hs k hk, ← hd k (by omega), ← hd (k + 1) (by omega), ← Int.natCast_mul]
    rfl
  · rw [← hd k (by omega), ← hd (k + 1) (by omega), ← Int.natCast_mul, ← Int.natCast_mul]
    rfl
theorem nm_cast {Bm : List (List Int)} {x : List Int} {n : Nat} (h : OfOk Bm n) : QQ (nmP (gwD Bm n) x (gwL Bm n) n n) (nmQ (gwD Bm n) n) = RN (lnQ Bm x n) 1 := by
  rw [qq_1]
  refine qq_eq (nmQ_ne (gw_good h) n (by rw [(gw_len Bm n).2]; exact Nat.le_refl _)) (by decide) ?_
  rw [nm_len h]
  simp
theorem f_eq {Bm : List (List Int)} {x : List Int} {n qn : Nat} (h : OfOk Bm n) (hq : ((fS (gwD Bm n) (shR x n) (gwL Bm n) n n).2 * fD (gwD Bm n) n n) * (1 * 1) = (qn : Int)) : (fS (gwD Bm n) (shR x n) (gwL Bm n) n n).1 = lnQ Bm x n * (qn : Int) := by
  have g := gw_good h
  have hn : n = (gwL Bm n).length := (gw_len Bm n).2.symm
  have e1 := fS_is (sh := shR x n) g hn n (Nat.le_refl _)
  have e2 := fP_nmP (D := gwD Bm n) (x := x) (L := gwL Bm n) (n := n)
  rw [nm_len h] at e2
  have q1 : (nmQ (gwD Bm n) n : Int) ≠ 0 := by have := nmQ_ne g n (by omega); omega
  have q2 : (fQ (gwD Bm n) n n : Int) ≠ 0 := by have := fQ_ne g hn n (Nat.le_refl _); omega
  have e3 : fP (gwD Bm n) (shR x n) (gwL Bm n) n n = lnQ Bm x n * (fQ (gwD Bm n) n n : Int) := by
    refine Int.eq_of_mul_eq_mul_right q1 ?_
    rw [e2]
    generalize (nmQ (gwD Bm n) n : Int) = a
    generalize (fQ (gwD Bm n) n n : Int) = b
    generalize lnQ Bm x n = c
    grind
  rw [e3] at e1
  rw [← hq, Int.mul_one, Int.mul_one]
  refine Int.eq_of_mul_eq_mul_right q2 ?_
  rw [e1]
  generalize (fQ (gwD Bm n) n n : Int) = b
  generalize lnQ Bm x n = c
  generalize (fS (gwD Bm n) (shR x n) (gwL Bm n) n n).2 * fD (gwD Bm n) n n = d
  grind
theorem f_cast {Bm : List (List Int)} {x : List Int} {n qn : Nat} (h : OfOk Bm n) (hq : ((fS (gwD Bm n) (shR x n) (gwL Bm n) n n).2 * fD (gwD Bm n) n n) * (1 * 1) = (qn : Int)) (hq0 : qn ≠ 0) : QQ (fS (gwD Bm n) (shR x n) (gwL Bm n) n n).1 qn = RN (lnQ Bm x n) 1 := by
  rw [qq_1]
  refine qq_eq hq0 (by decide) ?_
  rw [f_eq h hq, Int.natCast_one, Int.mul_one]
/-! How long all is. -/
theorem fW_dl {D sh : List Int} {L : List (List Int)} {Kd Ks n k : Nat} (hD : Dl D Kd) (hL : Mdl L Kd) (hs : Dl sh Ks) : (digs (fW D sh L n k).natAbs).length ≤ Ks + Kd + k + 1 := by
  have h1 : (digs (sh.getD k 0 * D.getD (n - 1 - k + 1) 0).natAbs).length ≤ Ks + Kd + k := Nat.le_trans (dl_mul (dl_getD hs _) (dl_getD hD _)) (by omega)
  have h2 := sumZ_len (fbL_dl hs hL n (n - 1 - k) k) k
  rw [List.take_of_length_le (by rw [fbL_len]; omega)] at h2
  exact dl_add h1 h2
theorem fS_dl {D sh : List Int} {L : List (List Int)} (g : Good D L) {Kd Ks n W : Nat} (hn : n = L.length) (hD : Dl D Kd) (hL : Mdl L Kd) (hs : Dl sh Ks) (hW : Ks + Kd + n + 1 ≤ W) : ∀ k, k ≤ n → (digs (fS D sh L n k).2.natAbs).length ≤ 1 + k * Kd ∧ (digs (fS D sh L n k).1.natAbs).length ≤ 2 * W + 1 + k * (Kd + 1)
  | 0, _ => ⟨by show (digs (1 : Int).natAbs).length ≤ _; exact Nat.le_trans one_dl (by omega), by show (digs (0 : Int).natAbs).length ≤ _; rw [show (0 : Int).natAbs = 0 from rfl, digs_zero]; exact Nat.zero_le _⟩
  | k + 1, h => by
    obtain ⟨h1, h2⟩ := fS_dl (sh := sh) g hn hD hL hs hW k (by omega)
    have hw : (digs (fW D sh L n k).natAbs).length ≤ W := Nat.le_trans (fW_dl hD hL hs) (by omega)
    have e1 : (k + 1) * Kd = k * Kd + Kd := Nat.succ_mul _ _
    have e2 : (k + 1) * (Kd + 1) = k * Kd + k + Kd + 1 := by rw [Nat.succ_mul, Nat.mul_add, Nat.mul_one]; omega
    have e3 : k * (Kd + 1) = k * Kd + k := by rw [Nat.mul_add, Nat.mul_one]
    have m1 : (digs (fM D sh L n k (fS D sh L n k)).natAbs).length ≤ 2 * W + 1 + (k * (Kd + 1) + Kd) + 1 := by
      refine dl_add (Nat.le_trans (dl_mul h2 (dl_getD hD _)) (by omega)) (Nat.le_trans (dl_mul h1 (dl_mul hw hw)) (by omega))
    have hm : D.getD (n - 1 - k + 1) 0 ≠ 0 := Int.ne_of_gt (g.d _ (by have := g.len; omega))
    rw [fS]
    by_cases hr : rm (fM D sh L n k (fS D sh L n k)) (D.getD (n - 1 - k + 1) 0) = 0
    · rw [if_pos hr]
      refine ⟨by show (digs (fS D sh L n k).2.natAbs).length ≤ _; omega, ?_⟩
      have hb := (rm_bounds (A := fM D sh L n k (fS D sh L n k)) hm).1
      rw [hr, Int.add_zero] at hb
      refine Nat.le_trans (digs_length_mono ?_) (Nat.le_trans m1 (by omega))
      show (fl (fM D sh L n k (fS D sh L n k)) (D.getD (n - 1 - k + 1) 0)).natAbs ≤ _
      rw [hb, Int.natAbs_mul]
      refine Nat.le_trans ?_ (Nat.mul_le_mul_left _ (show 1 ≤ (D.getD (n - 1 - k + 1) 0).natAbs by omega))
      rw [Nat.mul_one, ← hb]
      exact Nat.le_refl _
    · rw [if_neg hr]
      exact ⟨Nat.le_trans (dl_mul h1 (dl_getD hD _)) (by omega), Nat.le_trans m1 (by omega)⟩
/-- All that the calls want of the data. -/
structure FwOk (Bm : List (List Int)) (x : List Int) (n qn : Nat) : Prop where
  dD : Dl (gwD Bm n) 196
  dL : Mdl (gwL Bm n) 196
  hN : ∀ k, k ≤ n → (digs (fS (gwD Bm n) (shR x n) (gwL Bm n) n k).1.natAbs).length ≤ 4194304
  hR : ∀ k, k ≤ n → (digs (fS (gwD Bm n) (shR x n) (gwL Bm n) n k).2.natAbs).length ≤ 4194304
  hq : ((fS (gwD Bm n) (shR x n) (gwL Bm n) n n).2 * fD (gwD Bm n) n n) * (1 * 1) = (qn : Int)
  h0 : qn ≠ 0
  hd : (digs qn).length ≤ 8388608
  hl : (digs (lnQ Bm x n).natAbs).length ≤ 4194304
  hw : wtD (gwD Bm n) (n + 1) ≤ 1048576
theorem wtD_le {D : List Int} {K : Nat} (h : Dl D K) : ∀ k, wtD D k ≤ k * K
  | 0 => Nat.zero_le _
  | k + 1 => by
    have ih := wtD_le h k
    have e := dl_getD h k
    have e1 : (k + 1) * K = k * K + K := Nat.succ_mul _ _
    simp only [wtD]
    omega
theorem fw_ok {Bm : List (List Int)} {x : List Int} {n K : Nat} (h : OfOk Bm n) (hx : Dl x K) (hK : K ≤ 1048576) : ∃ qn, FwOk Bm x n qn := by
  have g := gw_good h
  have hn : n = (gwL Bm n).length := (gw_len Bm n).2.symm
  have h12 := h.top
  have ok : WdOk Bm n 196 := wd_all h.top (Nat.le_refl _) h.bits (nar_row h.nar) (fun k hk => h.ne k (by omega))
  have dD := gwD_dl (by omega) ok n (Nat.le_refl _)
  have dL := gwL_dl ok n (Nat.le_refl _)
  have hS := fS_dl (sh := shR x n) (Ks := K) (W := K + 196 + n + 1) g hn dD dL (shR_dl hx) (Nat.le_refl _)
  have hk : ∀ k, k ≤ n → k * 196 ≤ 2352 ∧ k * (196 + 1) ≤ 2364 := fun k hk => ⟨by omega, by omega⟩
  have p1 := fS_pos (sh := shR x n) g hn n (Nat.le_refl _)
  have p2 := fD_pos g hn n (Nat.le_refl _)
  have p3 := Int.mul_pos p1 p2
  have fDd : (digs (fD (gwD Bm n) n n).natAbs).length ≤ 196 := by
    cases n with
    | zero => exact Nat.le_trans one_dl (by omega)
    | succ k => exact dl_getD dD _
  have hq : ((fS (gwD Bm n) (shR x n) (gwL Bm n) n n).2 * fD (gwD Bm n) n n) * (1 * 1) = (((fS (gwD Bm n) (shR x n) (gwL Bm n) n n).2 * fD (gwD Bm n) n n).natAbs : Int) := by
    rw [Int.mul_one, Int.mul_one, Int.natAbs_of_nonneg (Int.le_of_lt p3)]
  have h0 : ((fS (gwD Bm n) (shR x n) (gwL Bm n) n n).2 * fD (gwD Bm n) n n).natAbs ≠ 0 := by omega
  have hN : ∀ k, k ≤ n → (digs (fS (gwD Bm n) (shR x n) (gwL Bm n) n k).1.natAbs).length ≤ 4194304 := fun k hk' => by have := (hS k hk').2; have := hk k hk'; omega
  have hR : ∀ k, k ≤ n → (digs (fS (gwD Bm n) (shR x n) (gwL Bm n) n k).2.natAbs).length ≤ 4194304 := fun k hk' => by have := (hS k hk').1; have := hk k hk'; omega
  refine ⟨_, dD, dL, hN, hR, hq, h0, ?_, ?_, ?_⟩
  · exact Nat.le_trans (dl_mul (hR n (Nat.le_refl _)) fDd) (by omega)
  · refine Nat.le_trans (digs_length_mono ?_) (hN n (Nat.le_refl _))
    rw [f_eq h hq, Int.natAbs_mul]
    refine Nat.le_trans (Nat.le_of_eq (Nat.mul_one _).symm) (Nat.mul_le_mul_left _ ?_)
    generalize ((fS (gwD Bm n) (shR x n) (gwL Bm n) n n).2 * fD (gwD Bm n) n n).natAbs = q at h0 ⊢
    omega
  · have := wtD_le dD (n + 1)
    have : (n + 1) * 196 ≤ 2548 := by omega
    omega
end Go.Proofs.Ytdlhgmfahdbgmaa

/-
  FilterWhole's walk: it returns true and writes nothing that was there.
-/
namespace Go.Proofs.Ytdlhgmfahdbgmaa
open Go Go.RowKit Nt
set_option linter.unusedSimpArgs false
set_option linter.unusedVariables false
set_option maxRecDepth 20000

set_option maxHeartbeats 2000000 in
theorem fw_e (w : World) (u v : Value) (n m K Kb : Nat) (Bm : List (List Int)) (x : List Int) (h : Hs w (Mv n Bm Kb) u) (hv : Hs w (Vv m x K) v) (hn : n ≤ 1048576) (hm : m ≤ 1048576) (e0 : Int) (he : e0 ≠ 0) (hof : OfGives n Kb Bm (TWO (IS (.agg #[.slice none 0 0, .slice none 0 0])) (IS (.int .i64 e0)))) :
    Calls Try.prog 3 #[u, v] w (Gives (IS (.bool true)) w) := by
  refine calls_sta (sl := [(0, (Mv n Bm Kb)), (1, (Vv m x K))]) Try.func3 rfl Try.ntmps3 (by simp) (args_cons rfl (h) (args_cons rfl (hv) args_nil)) ?_
  intro a0 S0
  refine wp_stmt_seq [kF] [] [.inr 0, .inr 1] follows S0 rfl (by kernel_rfl) ?_ ?_
  · refine ⟨trivial, ?_⟩
    · exact mC
  intro B1 a1 W1 (S1 : Sta w 80 [] [(0, Mv n Bm Kb), (1, Vv m x K)] _ _ _)
  refine wp_seq ?_
  refine wp_stmt_seq [kT, kF] [] [.inl 1, .inr 0, .inr 1] follows S1 rfl (by kernel_rfl) ?_ ?_
  · refine ⟨⟨trivial, ?_⟩, ?_⟩
    · exact owe_call0 rfl wA rfl  (fresh_is _) rfl (fun args w => by go_simp) (fun w => falive_w w)
    · exact b_not wA (oO 0 14)
  intro B2 a2 W2 (S2 : Sta w 80 [] [(15, bF), (0, Mv n Bm Kb), (1, Vv m x K)] _ _ _)
  refine wp_cond_false (S2.bool 0 15 rfl) ?_
  refine wp_skip ?_
  refine thenN ?_
  refine wp_stmt_seq [.val (Mv n Bm Kb), .val ((TWO (IS (.agg #[.slice none 0 0, .slice none 0 0])) (IS (.int .i64 e0))) w.heap.size), .val ((TWO (IS (.agg #[.slice none 0 0, .slice none 0 0])) (IS (.int .i64 e0))) w.heap.size), .val (Is (.agg #[.slice none 0 0, .slice none 0 0])), .val (iV e0), .new (.box 26 (Is (.agg #[.slice none 0 0, .slice none 0 0]))), .put (.inr 5) (.box 26 (Is (.agg #[.slice none 0 0, .slice none 0 0]))), .val (iV e0)] [.inl 5] [.inl 7, .inr 1, .inr 2] follows S2 rfl (by kernel_rfl) ?_ ?_
  · repeat' refine And.intro ?_ ?_
    · trivial
    · exact mS 1 0
    · exact ch1 wA (qO 0 17 rfl) (fresh_two (fresh_is _) (fresh_is _)) (fun w u h => hof w u h)
    · exact mO 1 18
    · exact e20 wA (oO 2 16)
    · exact e21 wA (oO 2 16)
    · exact owe_new rfl wA rfl rfl (fun ρ w => alloc_gso ρ _ w)
    · exact owe_put 5 rfl wA rfl (by kernel_rfl) rfl (oO 3 19) (stores_of strct_gso shp_g0 shp_g0) rfl
    · exact mO 4 20
  intro B3 a3 W3 (S3 : Sta w 80 [(5, (.box 26 (Is (.agg #[.slice none 0 0, .slice none 0 0]))))] [(6, iV e0), (0, Mv n Bm Kb), (1, Vv m x K)] _ _ _)
  refine wp_seq ?_
  refine wp_stmt_seq [.val (iV e0), kT, kT, .off, .off, .off, .off, .off, kT] [.inr 0] [.inl 8, .inr 2] follows S3 rfl (by kernel_rfl) ?_ ?_
  · repeat' refine And.intro ?_ ?_
    · trivial
    · exact mS 0 6
    · exact b_neq_errno_t wA (oO 0 21) (opnd_const _) (h := he)
    · exact mO 1 22
    · exact oF 2 23
    · exact oF 2 23
    · exact oF 2 23
    · exact oF 2 23
    · exact oF 2 23
    · exact pT wA (oO 2 23) (opnd_const _)
  intro B4 a4 W4 (S4 : Sta w 80 [(5, (.box 26 (Is (.agg #[.slice none 0 0, .slice none 0 0]))))] [(29, bT), (1, Vv m x K)] _ _ _)
  refine wp_cond_true (S4.bool 0 29 rfl) ?_
  refine wp_stmt_seq [kT] [.inr 0] [.inl 0] follows S4 rfl (by kernel_rfl) ?_ ?_
  · refine ⟨trivial, ?_⟩
    · exact mC
  intro B5 a5 W5 (S5 : Sta w 80 [(5, (.box 26 (Is (.agg #[.slice none 0 0, .slice none 0 0]))))] [(4, bT)] _ _ _)
  refine wp_ret ?_
  refine thenR ?_
  exact end_one S5 rfl (res_tmp S5 0 4 rfl)

set_option maxHeartbeats 2000000 in
theorem fw_l (w : World) (u v : Value) (n m K Kb : Nat) (Bm : List (List Int)) (x : List Int) (h : Hs w (Mv n Bm Kb) u) (hv : Hs w (Vv m x K) v) (hn : n ≤ 1048576) (hm : m ≤ 1048576) (hne : m ≠ n) (hof : OfGives n Kb Bm (TWO (GN n (gwD Bm n) (gwL Bm n)) (IS (.int .i64 0)))) :
    Calls Try.prog 3 #[u, v] w (Gives (IS (.bool true)) w) := by
  refine calls_sta (sl := [(0, (Mv n Bm Kb)), (1, (Vv m x K))]) Try.func3 rfl Try.ntmps3 (by simp) (args_cons rfl (h) (args_cons rfl (hv) args_nil)) ?_
  intro a0 S0
  refine wp_stmt_seq [kF] [] [.inr 0, .inr 1] follows S0 rfl (by kernel_rfl) ?_ ?_
  · refine ⟨trivial, ?_⟩
    · exact mC
  intro B1 a1 W1 (S1 : Sta w 80 [] [(0, Mv n Bm Kb), (1, Vv m x K)] _ _ _)
  refine wp_seq ?_
  refine wp_stmt_seq [kT, kF] [] [.inl 1, .inr 0, .inr 1] follows S1 rfl (by kernel_rfl) ?_ ?_
  · refine ⟨⟨trivial, ?_⟩, ?_⟩
    · exact owe_call0 rfl wA rfl  (fresh_is _) rfl (fun args w => by go_simp) (fun w => falive_w w)
    · exact b_not wA (oO 0 14)
  intro B2 a2 W2 (S2 : Sta w 80 [] [(15, bF), (0, Mv n Bm Kb), (1, Vv m x K)] _ _ _)
  refine wp_cond_false (S2.bool 0 15 rfl) ?_
  refine wp_skip ?_
  refine thenN ?_
  refine wp_stmt_seq [.val (Mv n Bm Kb), .val ((TWO (GN n (gwD Bm n) (gwL Bm n)) (IS (.int .i64 0))) w.heap.size), .val ((TWO (GN n (gwD Bm n) (gwL Bm n)) (IS (.int .i64 0))) w.heap.size), .val (SF [((VN (n + 1) (gwD Bm n)) w.heap.size), ((MN n (gwL Bm n)) w.heap.size)]), .val (iV 0), .new (.box 26 (Is (.agg #[.slice none 0 0, .slice none 0 0]))), .put (.inr 5) (.box 26 (SF [((VN (n + 1) (gwD Bm n)) w.heap.size), ((MN n (gwL Bm n)) w.heap.size)])), .val (iV 0)] [.inl 5] [.inl 7, .inr 1, .inr 2] follows S2 rfl (by kernel_rfl) ?_ ?_
  · repeat' refine And.intro ?_ ?_
    · trivial
    · exact mS 1 0
    · exact ch1 wA (qO 0 17 rfl) (fresh_two fresh_gn (fresh_is _)) (fun w u h => hof w u h)
    · exact mO 1 18
    · exact e20 wA (oO 2 16)
    · exact e21 wA (oO 2 16)
    · exact owe_new rfl wA rfl rfl (fun ρ w => alloc_gso ρ _ w)
    · exact owe_put 5 rfl wA rfl (by kernel_rfl) rfl (oO 3 19) (stores_of strct_gso shp_g0 shp_sf2) rfl
    · exact mO 4 20
  intro B3 a3 W3 (S3 : Sta w 80 [(5, (.box 26 (SF [((VN (n + 1) (gwD Bm n)) w.heap.size), ((MN n (gwL Bm n)) w.heap.size)])))] [(6, iV 0), (0, Mv n Bm Kb), (1, Vv m x K)] _ _ _)
  refine wp_seq ?_
  refine wp_stmt_seq [.val (iV 0), kF, kF, .val (Vv m x K), .val (iV (m : Nat)), .val (Mv n Bm Kb), .val (iV (n : Nat)), kT, kT] [.inr 0] [.inl 8, .inr 2] follows S3 rfl (by kernel_rfl) ?_ ?_
  · repeat' refine And.intro ?_ ?_
    · trivial
    · exact mS 0 6
    · exact b_neq_errno_f wA (oO 0 21) (opnd_const _) (h := rfl)
    · exact mO 1 22
    · exact mW (wI 2 23) (oS 2 1)
    · exact owe_len rfl (wI 2 23) rfl (oO 3 24) ar_len Try.underlying23 rfl
    · exact mW (wI 2 23) (oS 1 0)
    · exact owe_len rfl (wI 2 23) rfl (oO 5 26) ar_len Try.underlying22 rfl
    · exact b_neq_int_t (wI 2 23) (oO 4 25) (oO 6 27)
    · exact pF wA (oO 2 23) (oO 7 28)
  intro B4 a4 W4 (S4 : Sta w 80 [(5, (.box 26 (SF [((VN (n + 1) (gwD Bm n)) w.heap.size), ((MN n (gwL Bm n)) w.heap.size)])))] [(29, bT), (1, Vv m x K)] _ _ _)
  refine wp_cond_true (S4.bool 0 29 rfl) ?_
  refine wp_stmt_seq [kT] [.inr 0] [.inl 0] follows S4 rfl (by kernel_rfl) ?_ ?_
  · refine ⟨trivial, ?_⟩
    · exact mC
  intro B5 a5 W5 (S5 : Sta w 80 [(5, (.box 26 (SF [((VN (n + 1) (gwD Bm n)) w.heap.size), ((MN n (gwL Bm n)) w.heap.size)])))] [(4, bT)] _ _ _)
  refine wp_ret ?_
  refine thenR ?_
  exact end_one S5 rfl (res_tmp S5 0 4 rfl)

set_option maxHeartbeats 2000000 in
theorem fw_w (w : World) (u v : Value) (n K Kb : Nat) (Bm : List (List Int)) (x : List Int) (h : Hs w (Mv n Bm Kb) u) (hv : Hs w (Vv n x K) v) (hn : n ≤ 1048576) (lx : x.length = n) (hKn : K + n ≤ 1048576) (hK2 : 196 ≤ K) (hok : OfOk Bm n) (qn : Nat) (ok : FwOk Bm x n qn) (hof : OfGives n Kb Bm (TWO (GN n (gwD Bm n) (gwL Bm n)) (IS (.int .i64 0)))) :
    Calls Try.prog 3 #[u, v] w (Gives (IS (.bool true)) w) := by
  have dx := vv_dl hv.now
  have gd := gw_good hok
  have h12 := hok.top
  have dD2 : Dl (gwD Bm n) K := fun i z hz => Nat.le_trans (ok.dD i z hz) hK2
  have dL2 : Mdl (gwL Bm n) K := fun i r hr => fun j z hz => Nat.le_trans (ok.dL i r hr j z hz) hK2
  have hln := ok.hl
  have dl_1 : (digs 1).length ≤ 1 := one_dl
  refine calls_sta (sl := [(0, (Mv n Bm Kb)), (1, (Vv n x K))]) Try.func3 rfl Try.ntmps3 (by simp) (args_cons rfl (h) (args_cons rfl (hv) args_nil)) ?_
  intro a0 S0
  refine wp_stmt_seq [kF] [] [.inr 0, .inr 1] follows S0 rfl (by kernel_rfl) ?_ ?_
  · refine ⟨trivial, ?_⟩
    · exact mC
  intro B1 a1 W1 (S1 : Sta w 80 [] [(0, Mv n Bm Kb), (1, Vv n x K)] _ _ _)
  refine wp_seq ?_
  refine wp_stmt_seq [kT, kF] [] [.inl 1, .inr 0, .inr 1] follows S1 rfl (by kernel_rfl) ?_ ?_
  · refine ⟨⟨trivial, ?_⟩, ?_⟩
    · exact owe_call0 rfl wA rfl  (fresh_is _) rfl (fun args w => by go_simp) (fun w => falive_w w)
    · exact b_not wA (oO 0 14)
  intro B2 a2 W2 (S2 : Sta w 80 [] [(15, bF), (0, Mv n Bm Kb), (1, Vv n x K)] _ _ _)
  refine wp_cond_false (S2.bool 0 15 rfl) ?_
  refine wp_skip ?_
  refine thenN ?_
  refine wp_stmt_seq [.val (Mv n Bm Kb), .val ((TWO (GN n (gwD Bm n) (gwL Bm n)) (IS (.int .i64 0))) w.heap.size), .val ((TWO (GN n (gwD Bm n) (gwL Bm n)) (IS (.int .i64 0))) w.heap.size), .val (SF [((VN (n + 1) (gwD Bm n)) w.heap.size), ((MN n (gwL Bm n)) w.heap.size)]), .val (iV 0), .new (.box 26 (Is (.agg #[.slice none 0 0, .slice none 0 0]))), .put (.inr 5) (.box 26 (SF [((VN (n + 1) (gwD Bm n)) w.heap.size), ((MN n (gwL Bm n)) w.heap.size)])), .val (iV 0)] [.inl 5] [.inl 7, .inr 1, .inr 2] follows S2 rfl (by kernel_rfl) ?_ ?_
  · repeat' refine And.intro ?_ ?_
    · trivial
    · exact mS 1 0
    · exact ch1 wA (qO 0 17 rfl) (fresh_two fresh_gn (fresh_is _)) (fun w u h => hof w u h)
    · exact mO 1 18
    · exact e20 wA (oO 2 16)
    · exact e21 wA (oO 2 16)
    · exact owe_new rfl wA rfl rfl (fun ρ w => alloc_gso ρ _ w)
    · exact owe_put 5 rfl wA rfl (by kernel_rfl) rfl (oO 3 19) (stores_of strct_gso shp_g0 shp_sf2) rfl
    · exact mO 4 20
  intro B3 a3 W3 (S3 : Sta w 80 [(5, (.box 26 (SF [((VN (n + 1) (gwD Bm n)) w.heap.size), ((MN n (gwL Bm n)) w.heap.size)])))] [(6, iV 0), (0, Mv n Bm Kb), (1, Vv n x K)] _ _ _)
  refine wp_seq ?_
  refine wp_stmt_seq [.val (iV 0), kF, kF, .val (Vv n x K), .val (iV (n : Nat)), .val (Mv n Bm Kb), .val (iV (n : Nat)), kF, kF] [.inr 0] [.inl 8, .inr 2] follows S3 rfl (by kernel_rfl) ?_ ?_
  · repeat' refine And.intro ?_ ?_
    · trivial
    · exact mS 0 6
    · exact b_neq_errno_f wA (oO 0 21) (opnd_const _) (h := rfl)
    · exact mO 1 22
    · exact mW (wI 2 23) (oS 2 1)
    · exact owe_len rfl (wI 2 23) rfl (oO 3 24) ar_len Try.underlying23 rfl
    · exact mW (wI 2 23) (oS 1 0)
    · exact owe_len rfl (wI 2 23) rfl (oO 5 26) ar_len Try.underlying22 rfl
    · exact b_neq_int_f (wI 2 23) (oO 4 25) (oO 6 27)
    · exact pF wA (oO 2 23) (oO 7 28)
  intro B4 a4 W4 (S4 : Sta w 80 [(5, (.box 26 (SF [((VN (n + 1) (gwD Bm n)) w.heap.size), ((MN n (gwL Bm n)) w.heap.size)])))] [(29, bF), (1, Vv n x K)] _ _ _)
  refine wp_cond_false (S4.bool 0 29 rfl) ?_
  refine wp_skip ?_
  refine thenN ?_
  refine wp_stmt_seq [.new (.row 32 2 0 (CE 2 ((rvL x n 0).map (fun z => Zv z K))))] [.inr 0, .inl 0] [.inr 1] follows S4 rfl (by kernel_rfl) ?_ ?_
  · refine ⟨trivial, ?_⟩
    · exact owe_nilrow rfl wA rfl rfl ce_nil
  intro B5 a5 W5 (S5 : Sta w 80 [(5, (.box 26 (SF [((VN (n + 1) (gwD Bm n)) w.heap.size), ((MN n (gwL Bm n)) w.heap.size)]))), (7, (.row 32 2 0 (CE 2 ((rvL x n 0).map (fun z => Zv z K)))))] [(1, Vv n x K)] _ _ _)
  refine wp_seq ?_
  refine wp_stmt_seq [.val (Vv n x K), .val (iV (n : Nat)), .val (Is (.int .i64 (((n : Nat) : Int) - 1 - ((0 : Nat) : Int)))), .val (Is (.int .i64 (((n : Nat) : Int) - 1 - ((0 : Nat) : Int))))] [.inr 0, .inr 1] [.inl 3, .inr 0] follows S5 rfl (by kernel_rfl) ?_ ?_
  · refine ⟨⟨⟨⟨trivial, ?_⟩, ?_⟩, ?_⟩, ?_⟩
    · exact mS 0 1
    · exact owe_len rfl wA rfl (oO 0 30) ar_len Try.underlying23 rfl
    · exact b_sub_int wA (oO 1 31) (opnd_const _)
    · exact mO 2 32
  intro B6 a6 W6 (S6 : Sta w 80 [(5, (.box 26 (SF [((VN (n + 1) (gwD Bm n)) w.heap.size), ((MN n (gwL Bm n)) w.heap.size)]))), (7, (.row 32 2 0 (CE 2 ((rvL x n 0).map (fun z => Zv z K)))))] [(8, Is (.int .i64 (((n : Nat) : Int) - 1 - ((0 : Nat) : Int)))), (1, Vv n x K)] _ _ _)
  refine wp_block ?_
  refine wp_loop_ghost (fun (k0 : Nat) a W => (k0 ≤ n) ∧ ∃ Bq, Sta w 80 [(5, (.box 26 (SF [((VN (n + 1) (gwD Bm n)) w.heap.size), ((MN n (gwL Bm n)) w.heap.size)]))), (7, (.row 32 2 k0 (CE 2 ((rvL x n k0).map (fun z => Zv z K)))))] [(8, Is (.int .i64 (((n : Nat) : Int) - 1 - ((k0 : Nat) : Int)))), (1, Vv n x K)] Bq a W) (fun (k0 : Nat) => n - k0) ?_ 0 ⟨Nat.zero_le _, B6, S6.sub [0, 1] [0, 1]⟩
  rintro k0 a7 W7 ⟨hcond, B7, S7⟩
  by_cases hlt : k0 < n
  · rw [show ((n : Nat) : Int) - 1 - ((k0 : Nat) : Int) = ((n - 1 - k0 : Nat) : Int) by omega] at S7
    refine wp_seq ?_
    refine wp_stmt_seq [.val (iV ((n - 1 - k0 : Nat) : Int)), kT] [.inr 0, .inr 1] [.inl 1, .inr 0, .inr 1] follows S7 rfl (by kernel_rfl) ?_ ?_
    · refine ⟨⟨trivial, ?_⟩, ?_⟩
      · exact mS 0 8
      · exact b_geq_int_t wA (oO 0 33) (opnd_const _)
    intro B8 a8 W8 (S8 : Sta w 80 [(5, (.box 26 (SF [((VN (n + 1) (gwD Bm n)) w.heap.size), ((MN n (gwL Bm n)) w.heap.size)]))), (7, (.row 32 2 k0 (CE 2 ((rvL x n k0).map (fun z => Zv z K)))))] [(34, bT), (8, iV ((n - 1 - k0 : Nat) : Int)), (1, Vv n x K)] _ _ _)
    refine wp_cond_true (S8.bool 0 34 rfl) ?_
    refine wp_skip ?_
    refine thenN ?_
    refine wp_seq ?_
    refine wp_block ?_
    refine wp_stmt [.val (Is (a8.eval (.tmp 7))), .val (Vv n x K), .val (iV ((n - 1 - k0 : Nat) : Int)), .val (AtE 2 (Zv (x.getD (n - 1 - k0) 0) K)), .val (Zv (x.getD (n - 1 - k0) 0) K), .val (Sng 32 2 (Zv (x.getD (n - 1 - k0) 0) K) w.heap.size), .mov 7 (.row 32 2 (k0 + 1) (CE 2 ((rvL x n ((k0 + 1))).map (fun z => Zv z K)))), .ref 6] [.inr 0, .inl 7] [.inr 1, .inr 2] follows S8 rfl (by kernel_rfl) ?_ ?_
    · repeat' refine And.intro ?_ ?_
      · trivial
      · exact owe_same rfl wA (Or.inl rfl) (by kernel_rfl) rfl
      · exact mS 2 1
      · exact mS 1 8
      · exact owe_aindex rfl wA rfl idx_ints (oO 1 38) (oO 2 39) (zv_at (by omega)) rfl
      · exact owe_aload rfl wA rfl ldr_int (by decide) (cel_shp (by decide) shp_zv) (oO 3 40) rfl
      · exact owe_b1 rfl wA rfl bld_int (oO 4 41) (cel_shp (by decide) shp_zv) rfl
      · exact owe_append rfl wA rfl (oO 0 37) (k := 1) rfl (by kernel_rfl) ((oO 5 42).imp b1_src) einf_int Try.underlying23 (by decide) ⟨by unfold maxLen; omega, by omega⟩ rfl (fun xs ys w h1 h2 => by rw [rvL, List.map_append]; exact ce_append _ _ _ h1 h2)
      · exact owe_ref 6 rfl wA (Or.inr rfl) (by kernel_rfl) rfl rfl
    intro B9 a9 W9 (S9 : Sta w 80 [(5, (.box 26 (SF [((VN (n + 1) (gwD Bm n)) w.heap.size), ((MN n (gwL Bm n)) w.heap.size)]))), (7, (.row 32 2 (k0 + 1) (CE 2 ((rvL x n ((k0 + 1))).map (fun z => Zv z K)))))] [(8, iV ((n - 1 - k0 : Nat) : Int)), (1, Vv n x K)] _ _ _)
    refine inBlkN ?_
    refine thenN ?_
    refine wp_stmt [.val (iV ((n - 1 - k0 : Nat) : Int)), .val (Is (.int .i64 (((n : Nat) : Int) - 1 - ((k0 + 1 : Nat) : Int)))), .val (Is (.int .i64 (((n : Nat) : Int) - 1 - ((k0 + 1 : Nat) : Int))))] [.inr 0, .inr 1] [.inl 2, .inr 1] follows S9 rfl (by kernel_rfl) ?_ ?_
    · refine ⟨⟨⟨trivial, ?_⟩, ?_⟩, ?_⟩
      · exact mS 0 8
      · exact b_sub_int wA (oO 0 35) (opnd_const _)
      · exact mO 1 36
    intro B10 a10 W10 (S10 : Sta w 80 [(5, (.box 26 (SF [((VN (n + 1) (gwD Bm n)) w.heap.size), ((MN n (gwL Bm n)) w.heap.size)]))), (7, (.row 32 2 (k0 + 1) (CE 2 ((rvL x n ((k0 + 1))).map (fun z => Zv z K)))))] [(8, Is (.int .i64 (((n : Nat) : Int) - 1 - ((k0 + 1 : Nat) : Int)))), (1, Vv n x K)] _ _ _)
    refine thenN ?_
    exact ⟨k0 + 1, ⟨by omega, B10, S10.sub [0, 1] [0, 1]⟩, by omega⟩
  · have ek : k0 = n := by omega
    rw [ek] at S7
    refine wp_seq ?_
    refine wp_stmt_seq [.val (Is (.int .i64 (((n : Nat) : Int) - 1 - ((n : Nat) : Int)))), kF] [.inr 0, .inr 1] [.inl 1, .inr 0, .inr 1] follows S7 rfl (by kernel_rfl) ?_ ?_
    · refine ⟨⟨trivial, ?_⟩, ?_⟩
      · exact mS 0 8
      · exact b_geq_int_f wA (oO 0 33) (opnd_const _)
    intro B8 a8 W8 (S8 : Sta w 80 [(5, (.box 26 (SF [((VN (n + 1) (gwD Bm n)) w.heap.size), ((MN n (gwL Bm n)) w.heap.size)]))), (7, (.row 32 2 n (CE 2 ((rvL x n n).map (fun z => Zv z K)))))] [(34, bF), (8, Is (.int .i64 (((n : Nat) : Int) - 1 - ((n : Nat) : Int)))), (1, Vv n x K)] _ _ _)
    refine wp_cond_false (S8.bool 0 34 rfl) ?_
    refine wp_exit ?_
    refine thenX ?_
    refine thenX ?_
    refine inBlkE ?_
    refine thenN ?_
    obtain ⟨B9, S9⟩ : ∃ Bq, Sta w 80 [(5, (.box 26 (SF [((VN (n + 1) (gwD Bm n)) w.heap.size), ((MN n (gwL Bm n)) w.heap.size)])))] [(7, Vv n (rvL x n n) K), (34, bF), (8, Is (.int .i64 (((n : Nat) : Int) - 1 - ((n : Nat) : Int)))), (1, Vv n x K)] Bq a8 W8 := ⟨_, S8.freeze 1 rfl (by simp) (fun v w' xs ho hc => row_ar (by decide) v w' xs ho hc)⟩
    obtain ⟨a9, W9, e1, e2⟩ : ∃ a W, a8 = a ∧ W8 = W := ⟨_, _, rfl, rfl⟩
    rw [e1, e2] at S9 ⊢
    clear e1 e2
    refine wp_stmt_seq [.val (SF [((VN (n + 1) (gwD Bm n)) w.heap.size), ((MN n (gwL Bm n)) w.heap.size)]), .val (Vv n (rvL x n n) K), .val ((TWO (RN (lnQ Bm x n) 1) (IS (.int .i64 0))) w.heap.size), .val ((TWO (RN (lnQ Bm x n) 1) (IS (.int .i64 0))) w.heap.size), .val ((RN (lnQ Bm x n) 1) w.heap.size), .val (iV 0), .new (.box 34 zR), .put (.inr 6) (.box 34 ((RN (lnQ Bm x n) 1) w.heap.size)), .val (iV 0)] [.inr 0, .inl 6] [.inl 8, .inr 0, .inr 2, .inr 3] follows S9 rfl (by kernel_rfl) ?_ ?_
    · repeat' refine And.intro ?_ ?_
      · trivial
      · exact lod 0 wA (loads_of strct_gso shp_sf2)
      · exact mS 0 7
      · exact ch3 wA ((qO 0 45 rfl).imp (sf_imp (vn_vv ok.dD) (mn_mv ok.dL))) (opnd_const _) (qO 1 46 rfl) (fresh_two (fresh_rn _ _) (fresh_is _)) (fun w u0 u1 u2 h0 h1 h2 => by obtain rfl : u1 = _ := h1.now; exact Gives.cast (fnorm_0 w u0 (n + 1) n 196 (gwD Bm n) (gwL Bm n) h0 (by omega) hn (by omega) (gw_len Bm n).1 (gw_len Bm n).2 u2 n K (rvL x n n) h2 (by omega) (rvL_len x n n) gd (Nat.le_refl _) K qn (shR_dl dx) (by omega) (fun k hk => Nat.le_trans (ok.hN k hk) (by omega)) (fun k hk => Nat.le_trans (ok.hR k hk) (by omega)) ok.hq ok.h0 (Nat.le_trans ok.hd (by omega))) (by rw [f_cast hok ok.hq ok.h0]))
      · exact mO 2 47
      · exact e20 wA (oO 3 44)
      · exact e21 wA (oO 3 44)
      · exact owe_new rfl wA rfl rfl (fun ρ w => alloc_rat ρ _ w)
      · exact owe_put 6 rfl wA rfl (by kernel_rfl) rfl (oO 4 48) (stores_of strct_rat shp_r0 (shp_pr shp_zn shp_zn)) rfl
      · exact mO 5 49
    intro B10 a10 W10 (S10 : Sta w 80 [(5, (.box 26 (SF [((VN (n + 1) (gwD Bm n)) w.heap.size), ((MN n (gwL Bm n)) w.heap.size)]))), (9, (.box 34 ((RN (lnQ Bm x n) 1) w.heap.size)))] [(6, iV 0), (7, Vv n (rvL x n n) K), (8, Is (.int .i64 (((n : Nat) : Int) - 1 - ((n : Nat) : Int)))), (1, Vv n x K)] _ _ _)
    refine wp_stmt_seq [.val (SF [((VN (n + 1) (gwD Bm n)) w.heap.size), ((MN n (gwL Bm n)) w.heap.size)]), .val (Vv n x K), .val ((TWO (RN (lnQ Bm x n) 1) (IS (.int .i64 0))) w.heap.size), .val ((TWO (RN (lnQ Bm x n) 1) (IS (.int .i64 0))) w.heap.size), .val ((RN (lnQ Bm x n) 1) w.heap.size), .val (iV 0), .new (.box 34 zR), .put (.inr 6) (.box 34 ((RN (lnQ Bm x n) 1) w.heap.size)), .val (iV 0)] [.inr 0, .inr 1, .inl 6] [.inl 8, .inr 0, .inr 1, .inr 2, .inr 3] follows S10 rfl (by kernel_rfl) ?_ ?_
    · repeat' refine And.intro ?_ ?_
      · trivial
      · exact lod 0 wA (loads_of strct_gso shp_sf2)
      · exact mS 3 1
      · exact ch2 wA ((qO 0 51 rfl).imp (sf_imp (vn_vv dD2) (mn_mv dL2))) (qO 1 52 rfl) (fresh_two (fresh_rn _ _) (fresh_is _)) (fun w u0 u1 h0 h1 => by exact Gives.cast (nrm_w w u0 u1 (n + 1) n n K (gwD Bm n) x (gwL Bm n) h0 h1 (by omega) hn hn (by omega) (gw_len Bm n).1 (gw_len Bm n).2 lx gd rfl dD2 dx dL2 hKn ok.hw) (by rw [nm_cast hok]))
      · exact mO 2 53
      · exact e20 wA (oO 3 50)
      · exact e21 wA (oO 3 50)
      · exact owe_new rfl wA rfl rfl (fun ρ w => alloc_rat ρ _ w)
      · exact owe_put 6 rfl wA rfl (by kernel_rfl) rfl (oO 4 54) (stores_of strct_rat shp_r0 (shp_pr shp_zn shp_zn)) rfl
      · exact mO 5 55
    intro B11 a11 W11 (S11 : Sta w 80 [(5, (.box 26 (SF [((VN (n + 1) (gwD Bm n)) w.heap.size), ((MN n (gwL Bm n)) w.heap.size)]))), (9, (.box 34 ((RN (lnQ Bm x n) 1) w.heap.size))), (10, (.box 34 ((RN (lnQ Bm x n) 1) w.heap.size)))] [(11, iV 0), (6, iV 0), (7, Vv n (rvL x n n) K), (8, Is (.int .i64 (((n : Nat) : Int) - 1 - ((n : Nat) : Int)))), (1, Vv n x K)] _ _ _)
    refine wp_seq ?_
    refine wp_stmt_seq [.val (iV 0), kF, kF, .val (iV 0), kF, kF] [.inr 0, .inr 1, .inr 2] [.inl 5, .inr 2, .inr 3, .inr 4] follows S11 rfl (by kernel_rfl) ?_ ?_
    · refine ⟨⟨⟨⟨⟨⟨trivial, ?_⟩, ?_⟩, ?_⟩, ?_⟩, ?_⟩, ?_⟩
      · exact mS 1 6
      · exact b_neq_errno_f wA (oO 0 56) (opnd_const _) (h := rfl)
      · exact mO 1 57
      · exact mW (wI 2 58) (oS 0 11)
      · exact b_neq_errno_f (wI 2 58) (oO 3 59) (opnd_const _) (h := rfl)
      · exact pF wA (oO 2 58) (oO 4 60)
    intro B12 a12 W12 (S12 : Sta w 80 [(5, (.box 26 (SF [((VN (n + 1) (gwD Bm n)) w.heap.size), ((MN n (gwL Bm n)) w.heap.size)]))), (9, (.box 34 ((RN (lnQ Bm x n) 1) w.heap.size))), (10, (.box 34 ((RN (lnQ Bm x n) 1) w.heap.size)))] [(61, bF), (7, Vv n (rvL x n n) K), (8, Is (.int .i64 (((n : Nat) : Int) - 1 - ((n : Nat) : Int)))), (1, Vv n x K)] _ _ _)
    refine wp_cond_false (S12.bool 0 61 rfl) ?_
    refine wp_skip ?_
    refine thenN ?_
    refine wp_stmt_seq [.val ((RN (lnQ Bm x n) 1) w.heap.size), .val ((RN (lnQ Bm x n) 1) w.heap.size), .val ((TWO (IS (.int .i64 ((lnQ Bm x n) * ((1 : Nat) : Int) - (lnQ Bm x n) * ((1 : Nat) : Int)).sign)) (IS (.int .i64 0))) w.heap.size), .val ((TWO (IS (.int .i64 ((lnQ Bm x n) * ((1 : Nat) : Int) - (lnQ Bm x n) * ((1 : Nat) : Int)).sign)) (IS (.int .i64 0))) w.heap.size), .val (Is (.int .i64 ((lnQ Bm x n) * ((1 : Nat) : Int) - (lnQ Bm x n) * ((1 : Nat) : Int)).sign)), .val (iV 0), .val (Is (.int .i64 ((lnQ Bm x n) * ((1 : Nat) : Int) - (lnQ Bm x n) * ((1 : Nat) : Int)).sign)), .val (iV 0)] [.inr 0, .inr 1] [.inl 6, .inl 7, .inr 1, .inr 2, .inr 3] follows S12 rfl (by kernel_rfl) ?_ ?_
    · repeat' refine And.intro ?_ ?_
      · trivial
      · exact lod 1 wA (loads_of strct_rat (shp_pr shp_zn shp_zn))
      · exact lod 2 wA (loads_of strct_rat (shp_pr shp_zn shp_zn))
      · exact cc2 wA (qO 0 63 rfl) (qO 1 64 rfl) (fresh_two (fresh_is _) (fresh_is _)) (fun w u v h1 h2 => g_ratcmp (k1 := 4194304) (k2 := 1) (k3 := 4194304) (k4 := 1) (by decide) (by decide) (by omega) (by omega) (by omega) (by omega) w u v (rn_rv hln dl_1 _ _ h1) (rn_rv hln dl_1 _ _ h2))
      · exact mO 2 65
      · exact e20 wA (oO 3 62)
      · exact e21 wA (oO 3 62)
      · exact mO 4 66
      · exact mO 5 67
    intro B13 a13 W13 (S13 : Sta w 80 [(5, (.box 26 (SF [((VN (n + 1) (gwD Bm n)) w.heap.size), ((MN n (gwL Bm n)) w.heap.size)]))), (9, (.box 34 ((RN (lnQ Bm x n) 1) w.heap.size)))] [(12, Is (.int .i64 ((lnQ Bm x n) * ((1 : Nat) : Int) - (lnQ Bm x n) * ((1 : Nat) : Int)).sign)), (13, iV 0), (7, Vv n (rvL x n n) K), (8, Is (.int .i64 (((n : Nat) : Int) - 1 - ((n : Nat) : Int)))), (1, Vv n x K)] _ _ _)
    refine wp_stmt_seq [.val (iV 0), kT, kT, .val (Is (.int .i64 ((lnQ Bm x n) * ((1 : Nat) : Int) - (lnQ Bm x n) * ((1 : Nat) : Int)).sign)), kT, kT, kT, .val (Part a13 9 2), .val ((ZN (((1 : Nat) : Int))) w.heap.size), .val ((ZN (1)) w.heap.size), kT, kT, kT] [.inr 0] [.inl 12, .inr 2, .inr 3, .inr 4] follows S13 rfl (by kernel_rfl) ?_ ?_
    · repeat' refine And.intro ?_ ?_
      · trivial
      · exact mS 1 13
      · exact b_eql_errno_t wA (oO 0 68) (opnd_const _) (h := rfl)
      · exact mO 1 69
      · exact mW (wI 2 70) (oS 0 12)
      · exact b_eql_int_t (wI 2 70) (oO 3 71) (opnd_const _) (h := by rw [Int.sub_self]; rfl)
      · exact pT wA (oO 2 70) (oO 4 72)
      · exact mO 5 73
      · exact owe_part rfl (wI 6 74) rfl (k := 1) rfl (by kernel_rfl) rfl (fun ρ w b h => part_rat1 ρ _ _ w b 0 h)
      · exact owe_pload rfl (wI 6 74) rfl (oO 7 75) (k := 1) rfl (by kernel_rfl) rfl (fun ρ w b u h1 h2 h3 => pload_den ρ _ _ w b u h1 h2 h3)
      · exact cc1 (wI 6 74) (opnd_const _) (fresh_zn _) (g_zof (1) (by omega) (by omega))
      · exact cc2 (wI 6 74) (qO 8 76 rfl) (qO 9 77 rfl) (fresh_is _) g_eq
      · exact pT wA (oO 6 74) (oO 10 78)
      · exact mO 11 79
    intro B14 a14 W14 (S14 : Sta w 80 [(5, (.box 26 (SF [((VN (n + 1) (gwD Bm n)) w.heap.size), ((MN n (gwL Bm n)) w.heap.size)])))] [(4, bT), (7, Vv n (rvL x n n) K), (8, Is (.int .i64 (((n : Nat) : Int) - 1 - ((n : Nat) : Int)))), (1, Vv n x K)] _ _ _)
    refine wp_ret ?_
    exact end_one S14 rfl (res_tmp S14 0 4 rfl)


theorem filterwhole_walk (w : World) (b : Option Addr) (n d : Nat) (rs : List Rw) (a1 : Option Addr) (m c1 : Nat) (fs : List El) (z0 : Ms w b n d rs) (s1 : Ls w a1 m c1 fs) (y0 : d ≤ 1048576) (yy0 : ∀ (i : Nat) (r : Rw), rs[i]? = some r → r.c ≤ 1048576 ∧ ∀ (j : Nat) (e : El), r.es[j]? = some e → e.c ≤ 1048576) (u1 : c1 ≤ 1048576) (uu1 : ∀ (i : Nat) (e : El), fs[i]? = some e → e.c ≤ 1048576) (t0 : (rs.map (fun r => (r.es.map (fun e => e.c + 1)).sum)).sum ≤ 1048576) (t1 : (fs.map (fun e => e.c + 1)).sum ≤ 1048576) :
    Calls Try.prog 3 #[.slice b n d, .slice a1 m c1] w fun e w' => e = .returned (.bool true) ∧ Below w.heap.size w w' := by
  have l1 := s1.len
  have q1 := len_sum fs
  have q2 := z0.cap
  have q3 := z0.len
  obtain ⟨e1, _, e3⟩ := ms_n z0 (k := 1048576) yy0
  have hb : Hs w (Mv n (zz (rs.map Rw.es)) 1048576) (.slice b n d) := fun w' ev => mx_mv e1 _ w' (ms_hs z0 w' ev)
  have hml : Ml (zz (rs.map Rw.es)) 1048576 := fun i zs hz => by
    obtain ⟨es, he, rfl⟩ := map_get hz
    rw [List.length_map]
    exact e3 i es he
  have hdl : Mdl (zz (rs.map Rw.es)) 1048576 := fun i zs hz => by
    obtain ⟨r, hr⟩ := mv_row hb.now hz
    exact vv_dl hr
  have hv : Hs w (Vv m (fs.map El.z) (1048576 - m)) (.slice a1 m c1) := fun w' ev => vx_vv (fun i x hx => by
    obtain ⟨_, _, _, _, _, hs⟩ := s1.lie i x hx
    have := hs.cap
    have := one_sum hx
    omega) _ w' (ls_hs s1 w' ev)
  have key : Calls Try.prog 3 #[.slice b n d, .slice a1 m c1] w (Gives (IS (.bool true)) w) := by
    rcases of_all n 1048576 (zz (rs.map Rw.es)) (by simp [zz, z0.len]) (by omega) (by omega) (by omega) hml hdl with ⟨e0, he, hof⟩ | ⟨hok, hof⟩
    · exact fw_e w _ _ n m _ 1048576 _ _ hb hv (by omega) (by omega) e0 he hof
    · by_cases hne : m = n
      · subst hne
        have h12 := hok.top
        obtain ⟨qn, ok⟩ := fw_ok hok (vv_dl hv.now) (by omega)
        exact fw_w w _ _ m _ 1048576 _ _ hb hv (by omega) (by simp [l1]) (by omega) (by omega) hok qn ok hof
      · exact fw_l w _ _ n m _ 1048576 _ _ hb hv (by omega) (by omega) hne hof
  refine key.mono ?_
  rintro e w' ⟨v, rfl, hb, hv⟩
  obtain rfl : v = _ := hv
  exact ⟨rfl, hb⟩
end Go.Proofs.Ytdlhgmfahdbgmaa
