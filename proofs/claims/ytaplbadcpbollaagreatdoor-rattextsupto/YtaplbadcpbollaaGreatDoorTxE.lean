import Derived.Test.YtaplbadcpbollaaGreatDoorTxC
import Derived.Test.YtaplbadcpbollaaGreatDoorTxB
import Derived.Test.YtaplbadcpbollaaGreatDoorZPred
import Derived.Test.YtaplbadcpbollaaGreatDoorSetY
import Derived.Test.YtaplbadcpbollaaGreatDoorJoins
/-
  Plain mathematics, no Go: what a text of a whole number is read as.
-/
namespace Go.Proofs.YtaplbadcpbollaaGreatDoor
open Go Go.RowKit Nt
set_option linter.unusedSimpArgs false
set_option linter.unusedVariables false
set_option maxRecDepth 20000

def dgB (n : Nat) : Bool := decide (48 ≤ n) && decide (n ≤ 57)
theorem dgB_iff {n : Nat} : dgB n = true ↔ 48 ≤ n ∧ n ≤ 57 := by unfold dgB; simp
theorem dgB_no {n : Nat} : dgB n = false ↔ ¬ (48 ≤ n ∧ n ≤ 57) := by rw [← dgB_iff]; cases dgB n <;> simp
/-- Does some number's text go on with that byte? -/
def goes (l : List UInt8) (i : Nat) : Bool :=
  if i = 0 then dgB (bt l 0) || decide (bt l 0 = 45) else if bt l 0 = 48 then false else if i = 1 ∧ bt l 0 = 45 then dgB (bt l i) && !decide (bt l i = 48) else dgB (bt l i)
def isN (l : List UInt8) : Bool := decide (0 < l.length) && decide (bt l 0 = 45)
def tl (l : List UInt8) : List UInt8 := if isN l then l.drop 1 else l
theorem first_no (p : Nat → Bool) : ∀ n, (∀ j, j < n → p j = true) ∨ ∃ i, i < n ∧ p i = false ∧ ∀ j, j < i → p j = true
  | 0 => Or.inl (fun j h => by omega)
  | n + 1 => by
    rcases first_no p n with h | ⟨i, h1, h2, h3⟩
    · cases e : p n with
      | true => exact Or.inl (fun j hj => by rcases Nat.lt_or_ge j n with h' | h'; exact h j h'; rw [show j = n by omega]; exact e)
      | false => exact Or.inr ⟨n, by omega, e, h⟩
    · exact Or.inr ⟨i, by omega, h2, h3⟩
/-! The pieces that the calls ask for. -/
theorem bt_drop (l : List UInt8) (k i : Nat) : bt (l.drop k) i = bt l (k + i) := by unfold bt; rw [List.getD_eq_getElem?_getD, List.getElem?_drop, ← List.getD_eq_getElem?_getD]
theorem dig_bt {l : List UInt8} {i : Nat} : dig (l.getD i 0) ↔ dgB (bt l i) = true := by rw [dgB_iff]; exact Iff.rfl
theorem b48 {l : List UInt8} {i : Nat} : l.getD i 0 = 48 ↔ bt l i = 48 := by
  constructor
  · intro h; unfold bt; rw [h]; rfl
  · intro h; unfold bt at h; exact UInt8.toNat_inj.1 h
theorem bad_bt {t : List UInt8} {i : Nat} : bad t i ↔ dgB (bt t i) = false ∨ (0 < i ∧ bt t 0 = 48) := by
  unfold bad
  rw [dig_bt, b48]
  cases dgB (bt t i) <;> simp
theorem good_bt {t : List UInt8} {i : Nat} : ¬ bad t i ↔ dgB (bt t i) = true ∧ ¬ (0 < i ∧ bt t 0 = 48) := by
  rw [bad_bt]
  cases dgB (bt t i) <;> simp
theorem isN_t {l : List UInt8} (h : isN l = true) : 0 < l.length ∧ bt l 0 = 45 := by unfold isN at h; simpa using h
theorem isN_f {l : List UInt8} (h : isN l = false) : l.length = 0 ∨ bt l 0 ≠ 45 := by
  unfold isN at h
  simp at h
  by_cases e : l.length = 0
  · exact Or.inl e
  · exact Or.inr (h (by omega))
theorem isN_plain {l : List UInt8} (h : isN l = false) : bt l 0 ≠ 45 := by
  rcases isN_f h with e | e
  · have : l = [] := List.length_eq_zero_iff.1 e
    subst this
    decide
  · exact e
theorem tl_t {l : List UInt8} (h : isN l = true) : tl l = l.drop 1 := by unfold tl; rw [if_pos h]
theorem tl_f {l : List UInt8} (h : isN l = false) : tl l = l := by unfold tl; rw [h]; rfl
theorem snocInd {p : List UInt8 → Prop} (h0 : p []) (h1 : ∀ r b, p r → p (r ++ [b])) (l : List UInt8) : p l := by
  rw [← List.reverse_reverse l]
  generalize l.reverse = m
  induction m with
  | nil => exact h0
  | cons b r ih => rw [List.reverse_cons]; exact h1 _ _ ih
theorem decV_lt : ∀ (l : List UInt8), (∀ b ∈ l, b.toNat ≤ 57) → decV l < 10 ^ l.length := by
  intro l
  induction l using snocInd with
  | h0 => intro _; decide
  | h1 r b ih =>
    intro h
    have h1 := ih (fun x hx => h x (by simp [hx]))
    have h2 := h b (by simp)
    rw [decV_snoc, List.length_append, List.length_singleton, Nat.pow_succ]
    omega
theorem digB_le {l : List UInt8} (h : ∀ j, j < l.length → dgB (bt l j) = true) : ∀ b ∈ l, b.toNat ≤ 57 := fun b hb => by
  obtain ⟨i, hi, rfl⟩ := List.mem_iff_getElem.1 hb
  have h1 := (dgB_iff.1 (h i hi)).2
  unfold bt at h1
  rwa [List.getD_eq_getElem?_getD, List.getElem?_eq_getElem hi] at h1
theorem dig_take {l : List UInt8} (h : ∀ j, j < l.length → dgB (bt l j) = true) (k : Nat) : ∀ j, j < (l.take k).length → dgB (bt (l.take k) j) = true := fun j hj => by
  have hj' : j < l.length ∧ j < k := by simp at hj; omega
  have := h j hj'.1
  unfold bt at this ⊢
  rwa [List.getD_eq_getElem?_getD, List.getElem?_take, if_pos hj'.2, ← List.getD_eq_getElem?_getD]
theorem dig_drop {l : List UInt8} (h : ∀ j, j < l.length → dgB (bt l j) = true) (k : Nat) : ∀ j, j < (l.drop k).length → dgB (bt (l.drop k) j) = true := fun j hj => by
  rw [bt_drop]
  exact h (k + j) (by simp at hj; omega)
theorem decV_app (l m : List UInt8) : decV (l ++ m) = decV l * 10 ^ m.length + decV m := by
  induction m using snocInd with
  | h0 => simp [decV]
  | h1 r b ih =>
    rw [← List.append_assoc, decV_snoc, decV_snoc, ih, List.length_append, List.length_singleton, Nat.pow_succ]
    rw [Nat.add_mul, Nat.mul_assoc]
    omega
theorem decV_dl {l : List UInt8} {k : Nat} (h : ∀ j, j < l.length → dgB (bt l j) = true) (hk : l.length ≤ k) : (digs (decV l)).length ≤ k := by
  refine Nat.le_trans (digs_length_le (k := l.length) ?_) hk
  have h1 := decV_lt l (digB_le h)
  have h2 : 10 ^ l.length ≤ 4294967296 ^ l.length := Nat.pow_le_pow_left (by omega) _
  omega
theorem decV_step {l : List UInt8} {k : Nat} (hk : k < l.length) (h : dgB (bt l k) = true) : decV (l.take (k + 1)) = 10 * decV (l.take k) + (bt l k - 48) := by
  rw [take_snocB l k hk, decV_snoc]
  unfold bt
  omega
end Go.Proofs.YtaplbadcpbollaaGreatDoor

/-
  zint.Read, and what it calls.
-/
namespace Go.Proofs.YtaplbadcpbollaaGreatDoor
open Go Go.RowKit Nt
set_option linter.unusedSimpArgs false
set_option linter.unusedVariables false
set_option maxRecDepth 20000


theorem take_one {l : List UInt8} (h : 0 < l.length) : l.take 1 = [l.getD 0 0] := by
  cases l with
  | nil => simp at h
  | cons a r => rfl
theorem take_is {l : List UInt8} (h : isN l = true) : l.take ([45] : List UInt8).length = [45] := by
  obtain ⟨h1, h2⟩ := isN_t h
  show l.take 1 = [45]
  rw [take_one h1]
  have : l.getD 0 0 = 45 := UInt8.toNat_inj.1 h2
  rw [this]
theorem take_no {l : List UInt8} (h0 : 0 < l.length) (h : isN l = false) : l.take ([45] : List UInt8).length ≠ [45] := by
  intro e
  have e1 : l.take 1 = [45] := e
  rw [take_one h0] at e1
  simp only [List.cons.injEq, and_true] at e1
  exact isN_plain h (by unfold bt; rw [e1]; rfl)
set_option maxHeartbeats 400000 in
theorem hasp_t (w : World) (l : List UInt8) (h : isN l = true) :
    Calls Tryz.prog 83 #[str l, str ([45])] w (Gives (IS (.bool true)) w) := by
  obtain ⟨hp, _⟩ := isN_t h
  refine calls_sta (sl := [(0, (sV l)), (1, (sV ([45])))]) Tryz.func83 rfl Tryz.ntmps83 (by simp) (args_cons rfl (is_has _) (args_cons rfl (is_has _) args_nil)) ?_
  intro a0 S0
  refine wp_stmt_seq [kF] [] [.inl 0, .inr 0, .inr 1] follows S0 rfl (by kernel_rfl) ?_ ?_
  · refine ⟨trivial, ?_⟩
    · exact mC
  intro B1 a1 W1 (S1 : Sta w 18 [] [(4, bF), (0, sV l), (1, sV ([45]))] _ _ _)
  refine wp_stmt_seq [.val (sV l), .val (iV ((l).length : Nat)), .val (sV ([45])), .val (iV (([45]).length : Nat)), kT, kT, .val (sV l), .val (sV ([45])), .val (iV (([45]).length : Nat)), .val (Is (str (l.take (([45] : List UInt8).length)))), .val (sV ([45])), kT, kT, kT] [] [.inl 13] follows S1 rfl (by kernel_rfl) ?_ ?_
  · repeat' refine And.intro ?_ ?_
    · trivial
    · exact mS 1 0
    · exact b_lens wA (oO 0 5)
    · exact mS 2 1
    · exact b_lens wA (oO 2 7)
    · exact b_geq_int_t wA (oO 1 6) (oO 3 8) (h := by have h45 : ([45] : List UInt8).length = 1 := rfl; omega)
    · exact mO 4 9
    · exact mW (wI 5 10) (oS 1 0)
    · exact mW (wI 5 10) (oS 2 1)
    · exact b_lens (wI 5 10) (oO 7 12)
    · exact owe_two rfl (wI 5 10) rfl (oO 6 11) (oO 8 13) rfl (fun ρ w h1 h2 => run_shi ρ _ _ _ w _ (([45] : List UInt8).length) (by have h45 : ([45] : List UInt8).length = 1 := rfl; omega) h1 h2)
    · exact mW (wI 5 10) (oS 2 1)
    · exact owe_bin rfl (wI 5 10) rfl (oO 9 14) (oO 10 15) rfl (fun ρ w h1 h2 => by exact run_eql_string_t ρ _ _ _ w _ _ (take_is h) h1 h2)
    · exact pT wA (oO 5 10) (oO 11 16)
    · exact mO 12 17
  intro B2 a2 W2 (S2 : Sta w 18 [] [(4, bT)] _ _ _)
  refine wp_ret ?_
  exact end_one S2 rfl (res_tmp S2 0 4 rfl)

set_option maxHeartbeats 400000 in
theorem hasp_f (w : World) (l : List UInt8) (hp : 0 < l.length) (h : isN l = false) :
    Calls Tryz.prog 83 #[str l, str ([45])] w (Gives (IS (.bool false)) w) := by
  refine calls_sta (sl := [(0, (sV l)), (1, (sV ([45])))]) Tryz.func83 rfl Tryz.ntmps83 (by simp) (args_cons rfl (is_has _) (args_cons rfl (is_has _) args_nil)) ?_
  intro a0 S0
  refine wp_stmt_seq [kF] [] [.inl 0, .inr 0, .inr 1] follows S0 rfl (by kernel_rfl) ?_ ?_
  · refine ⟨trivial, ?_⟩
    · exact mC
  intro B1 a1 W1 (S1 : Sta w 18 [] [(4, bF), (0, sV l), (1, sV ([45]))] _ _ _)
  refine wp_stmt_seq [.val (sV l), .val (iV ((l).length : Nat)), .val (sV ([45])), .val (iV (([45]).length : Nat)), kT, kT, .val (sV l), .val (sV ([45])), .val (iV (([45]).length : Nat)), .val (Is (str (l.take (([45] : List UInt8).length)))), .val (sV ([45])), kF, kF, kF] [] [.inl 13] follows S1 rfl (by kernel_rfl) ?_ ?_
  · repeat' refine And.intro ?_ ?_
    · trivial
    · exact mS 1 0
    · exact b_lens wA (oO 0 5)
    · exact mS 2 1
    · exact b_lens wA (oO 2 7)
    · exact b_geq_int_t wA (oO 1 6) (oO 3 8) (h := by have h45 : ([45] : List UInt8).length = 1 := rfl; omega)
    · exact mO 4 9
    · exact mW (wI 5 10) (oS 1 0)
    · exact mW (wI 5 10) (oS 2 1)
    · exact b_lens (wI 5 10) (oO 7 12)
    · exact owe_two rfl (wI 5 10) rfl (oO 6 11) (oO 8 13) rfl (fun ρ w h1 h2 => run_shi ρ _ _ _ w _ (([45] : List UInt8).length) (by have h45 : ([45] : List UInt8).length = 1 := rfl; omega) h1 h2)
    · exact mW (wI 5 10) (oS 2 1)
    · exact owe_bin rfl (wI 5 10) rfl (oO 9 14) (oO 10 15) rfl (fun ρ w h1 h2 => by exact run_eql_string_f ρ _ _ _ w _ _ (take_no hp h) h1 h2)
    · exact pT wA (oO 5 10) (oO 11 16)
    · exact mO 12 17
  intro B2 a2 W2 (S2 : Sta w 18 [] [(4, bF)] _ _ _)
  refine wp_ret ?_
  exact end_one S2 rfl (res_tmp S2 0 4 rfl)

set_option maxHeartbeats 400000 in
theorem hasp_0 (w : World) (l : List UInt8) (hp : l.length = 0) :
    Calls Tryz.prog 83 #[str l, str ([45])] w (Gives (IS (.bool false)) w) := by
  refine calls_sta (sl := [(0, (sV l)), (1, (sV ([45])))]) Tryz.func83 rfl Tryz.ntmps83 (by simp) (args_cons rfl (is_has _) (args_cons rfl (is_has _) args_nil)) ?_
  intro a0 S0
  refine wp_stmt_seq [kF] [] [.inl 0, .inr 0, .inr 1] follows S0 rfl (by kernel_rfl) ?_ ?_
  · refine ⟨trivial, ?_⟩
    · exact mC
  intro B1 a1 W1 (S1 : Sta w 18 [] [(4, bF), (0, sV l), (1, sV ([45]))] _ _ _)
  refine wp_stmt_seq [.val (sV l), .val (iV ((l).length : Nat)), .val (sV ([45])), .val (iV (([45]).length : Nat)), kF, kF, .off, .off, .off, .off, .off, .off, kF, kF] [] [.inl 13] follows S1 rfl (by kernel_rfl) ?_ ?_
  · repeat' refine And.intro ?_ ?_
    · trivial
    · exact mS 1 0
    · exact b_lens wA (oO 0 5)
    · exact mS 2 1
    · exact b_lens wA (oO 2 7)
    · exact b_geq_int_f wA (oO 1 6) (oO 3 8) (h := by have h45 : ([45] : List UInt8).length = 1 := rfl; omega)
    · exact mO 4 9
    · exact oF 5 10
    · exact oF 5 10
    · exact oF 5 10
    · exact oF 5 10
    · exact oF 5 10
    · exact oF 5 10
    · exact pF wA (oO 5 10) (opnd_const _)
    · exact mO 12 17
  intro B2 a2 W2 (S2 : Sta w 18 [] [(4, bF)] _ _ _)
  refine wp_ret ?_
  exact end_one S2 rfl (res_tmp S2 0 4 rfl)

theorem hasp_w (w : World) (l : List UInt8) : Calls Tryz.prog 83 #[str l, str [45]] w (Gives (IS (.bool (isN l))) w) := by
  cases e : isN l with
  | true => exact hasp_t w l e
  | false =>
    by_cases h : l.length = 0
    · exact hasp_0 w l h
    · exact hasp_f w l (by omega) e

set_option maxHeartbeats 400000 in
theorem trim_t (w : World) (l : List UInt8) (h : isN l = true) :
    Calls Tryz.prog 52 #[str l, str ([45])] w (Gives (IS (str (tl l))) w) := by
  have hh := hasp_w w l
  clear hh
  rw [tl_t h]
  obtain ⟨hp, _⟩ := isN_t h
  refine calls_sta (sl := [(0, (sV l)), (1, (sV ([45])))]) Tryz.func52 rfl Tryz.ntmps52 (by simp) (args_cons rfl (is_has _) (args_cons rfl (is_has _) args_nil)) ?_
  intro a0 S0
  refine wp_stmt_seq [.val (Is (str []))] [] [.inl 0, .inr 0, .inr 1] follows S0 rfl (by kernel_rfl) ?_ ?_
  · refine ⟨trivial, ?_⟩
    · exact mW wA ((opnd_const _).imp (fun _ _ h => h))
  intro B1 a1 W1 (S1 : Sta w 13 [] [(4, Is (str [])), (0, sV l), (1, sV ([45]))] _ _ _)
  refine wp_seq ?_
  refine wp_stmt_seq [.val (sV l), .val (sV ([45])), kT] [] [.inl 2, .inr 0, .inr 1, .inr 2] follows S1 rfl (by kernel_rfl) ?_ ?_
  · refine ⟨⟨⟨trivial, ?_⟩, ?_⟩, ?_⟩
    · exact mS 1 0
    · exact mS 2 1
    · exact ch2 wA (qO 0 5 rfl) (qO 1 6 rfl) (fresh_is _) (fun w u v h1 h2 => by obtain rfl : u = _ := h1.now; obtain rfl : v = _ := h2.now; have := hasp_w w l; rw [h] at this; exact this)
  intro B2 a2 W2 (S2 : Sta w 13 [] [(7, bT), (4, Is (str [])), (0, sV l), (1, sV ([45]))] _ _ _)
  refine wp_cond_true (S2.bool 0 7 rfl) ?_
  refine wp_stmt_seq [.val (sV l), .val (sV ([45])), .val (iV (([45]).length : Nat)), .val (Is (str (l.drop (([45] : List UInt8).length)))), .val (Is (str (l.drop (([45] : List UInt8).length))))] [] [.inl 4, .inr 0, .inr 2, .inr 3] follows S2 rfl (by kernel_rfl) ?_ ?_
  · refine ⟨⟨⟨⟨⟨trivial, ?_⟩, ?_⟩, ?_⟩, ?_⟩, ?_⟩
    · exact mS 2 0
    · exact mS 3 1
    · exact b_lens wA (oO 1 9)
    · exact owe_two rfl wA rfl (oO 0 8) (oO 2 10) rfl (fun ρ w h1 h2 => run_slo ρ _ _ _ w _ (([45] : List UInt8).length) (by have h45 : ([45] : List UInt8).length = 1 := rfl; omega) h1 h2)
    · exact mO 3 11
  intro B3 a3 W3 (S3 : Sta w 13 [] [(4, Is (str (l.drop (([45] : List UInt8).length)))), (7, bT), (0, sV l), (1, sV ([45]))] _ _ _)
  refine wp_ret ?_
  refine thenR ?_
  exact end_one S3 rfl (res_tmp S3 0 4 rfl)

set_option maxHeartbeats 400000 in
theorem trim_f (w : World) (l : List UInt8) (h : isN l = false) :
    Calls Tryz.prog 52 #[str l, str ([45])] w (Gives (IS (str (tl l))) w) := by
  have hh := hasp_w w l
  clear hh
  rw [tl_f h]
  refine calls_sta (sl := [(0, (sV l)), (1, (sV ([45])))]) Tryz.func52 rfl Tryz.ntmps52 (by simp) (args_cons rfl (is_has _) (args_cons rfl (is_has _) args_nil)) ?_
  intro a0 S0
  refine wp_stmt_seq [.val (Is (str []))] [] [.inl 0, .inr 0, .inr 1] follows S0 rfl (by kernel_rfl) ?_ ?_
  · refine ⟨trivial, ?_⟩
    · exact mW wA ((opnd_const _).imp (fun _ _ h => h))
  intro B1 a1 W1 (S1 : Sta w 13 [] [(4, Is (str [])), (0, sV l), (1, sV ([45]))] _ _ _)
  refine wp_seq ?_
  refine wp_stmt_seq [.val (sV l), .val (sV ([45])), kF] [] [.inl 2, .inr 0, .inr 1, .inr 2] follows S1 rfl (by kernel_rfl) ?_ ?_
  · refine ⟨⟨⟨trivial, ?_⟩, ?_⟩, ?_⟩
    · exact mS 1 0
    · exact mS 2 1
    · exact ch2 wA (qO 0 5 rfl) (qO 1 6 rfl) (fresh_is _) (fun w u v h1 h2 => by obtain rfl : u = _ := h1.now; obtain rfl : v = _ := h2.now; have := hasp_w w l; rw [h] at this; exact this)
  intro B2 a2 W2 (S2 : Sta w 13 [] [(7, bF), (4, Is (str [])), (0, sV l), (1, sV ([45]))] _ _ _)
  refine wp_cond_false (S2.bool 0 7 rfl) ?_
  refine wp_skip ?_
  refine thenN ?_
  refine wp_stmt_seq [.val (sV l), .val (sV l)] [] [.inl 1, .inr 0, .inr 2, .inr 3] follows S2 rfl (by kernel_rfl) ?_ ?_
  · refine ⟨⟨trivial, ?_⟩, ?_⟩
    · exact mS 2 0
    · exact mO 0 12
  intro B3 a3 W3 (S3 : Sta w 13 [] [(4, sV l), (7, bF), (0, sV l), (1, sV ([45]))] _ _ _)
  refine wp_ret ?_
  exact end_one S3 rfl (res_tmp S3 0 4 rfl)

set_option maxHeartbeats 400000 in
theorem trimp_w (w : World) (l : List UInt8) :
    Calls Tryz.prog 25 #[str l, str ([45])] w (Gives (IS (str (tl l))) w) := by
  refine calls_sta (sl := [(0, (sV l)), (1, (sV ([45])))]) Tryz.func25 rfl Tryz.ntmps25 (by simp) (args_cons rfl (is_has _) (args_cons rfl (is_has _) args_nil)) ?_
  intro a0 S0
  refine wp_stmt_seq [.val (Is (str []))] [] [.inl 0, .inr 0, .inr 1] follows S0 rfl (by kernel_rfl) ?_ ?_
  · refine ⟨trivial, ?_⟩
    · exact mW wA ((opnd_const _).imp (fun _ _ h => h))
  intro B1 a1 W1 (S1 : Sta w 8 [] [(4, Is (str [])), (0, sV l), (1, sV ([45]))] _ _ _)
  refine wp_stmt_seq [.val (sV l), .val (sV ([45])), .val (sV (tl l)), .val (sV (tl l))] [] [.inl 3] follows S1 rfl (by kernel_rfl) ?_ ?_
  · refine ⟨⟨⟨⟨trivial, ?_⟩, ?_⟩, ?_⟩, ?_⟩
    · exact mS 1 0
    · exact mS 2 1
    · exact ch2 wA (qO 0 5 rfl) (qO 1 6 rfl) (fresh_is _) (fun w u v h1 h2 => by obtain rfl : u = _ := h1.now; obtain rfl : v = _ := h2.now; cases e : isN l with | true => exact trim_t w l e | false => exact trim_f w l e)
    · exact mO 2 7
  intro B2 a2 W2 (S2 : Sta w 8 [] [(4, sV (tl l))] _ _ _)
  refine wp_ret ?_
  exact end_one S2 rfl (res_tmp S2 0 4 rfl)

end Go.Proofs.YtaplbadcpbollaaGreatDoor
