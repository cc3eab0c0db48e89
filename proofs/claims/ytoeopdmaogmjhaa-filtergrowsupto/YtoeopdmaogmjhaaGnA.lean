import Derived.Test.YtoeopdmaogmjhaaSetL
import Derived.Test.YtoeopdmaogmjhaaVcA
import Derived.Test.YtoeopdmaogmjhaaGsA
import Derived.Test.YtoeopdmaogmjhaaGsD
/-
 Arguments that are data: two lists in a struct; what the row's reading gives.
-/
namespace Go.Proofs.Ytoeopdmaogmjhaa
open Go.ChangeShapes Go.WideShapes Go.ChangeAt Go.RowKit Nt
set_option linter.unusedSimpArgs false
set_option linter.unusedVariables false
set_option maxRecDepth 20000

theorem arg_rows_f {H : Type} {enc : TypeId × Value → H} {W : World} {v : Value} {y : DataW H × List MemPlace} {fuel : Nat}
  (hf : DataW.trod enc Try.prog W 0 (fun _ => true) true fuel 23 [v] = some y) :
  ∃ a n c rs, v = .slice a n c ∧ Ms W a n c rs ∧ ReadsM y.1 c rs := by
 rcases Go.Deep.open_slice1 Try.underlying23 (by kernel_rfl) hf with ⟨hcs, hx⟩ | ⟨x, l, c', m, k, V, D, Pl, hcs, _, hl, hm, hmm, hx, hall⟩
 ·simp only [List.cons.injEq, and_true] at hcs
  subst hcs
  exact ⟨_, _, _, [], rfl, ⟨rfl, Nat.le_refl _, Nat.zero_le _, fun _ => rfl, fun i e h => by simp at h⟩, Or.inl ⟨by rw [hx], rfl⟩⟩
 ·simp only [List.cons.injEq, and_true] at hcs
  subst hcs
  simp only [if_true] at hmm
  subst hmm
  have each : ∀ i, ∃ r : Rw, i < m → W.cell? (x.add i) = some (.slice r.p r.n r.c) ∧ Ls W r.p r.n r.c r.es ∧ ReadsL (D i) r.c r.es := by
   intro i
   by_cases hi : i < m
   ·obtain ⟨h1, h2⟩ := hall i hi
    obtain ⟨a', n', c'', es', e1, hs, hr⟩ := arg_ints_f h2
    exact ⟨⟨a', n', c'', es'⟩, fun _ => ⟨by rw [h1, e1], hs, hr⟩⟩
   ·exact ⟨default, fun h => absurd h hi⟩
  obtain ⟨E, hch'⟩ : ∃ E : Nat → Rw, ∀ i, i < m → W.cell? (x.add i) = some (.slice (E i).p (E i).n (E i).c) ∧ Ls W (E i).p (E i).n (E i).c (E i).es ∧ ReadsL (D i) (E i).c (E i).es := ⟨fun i => Classical.choose (each i), fun i => Classical.choose_spec (each i)⟩
  refine ⟨_, _, _, (List.range l).map E, rfl, ⟨by simp, hl, hm, (fun e => by cases e), ?_⟩, Or.inr ⟨_, _, by rw [hx], by simp; omega, ?_⟩⟩
  ·intro i e he
   obtain ⟨j, hj, rfl⟩ := map_get he
   have hi : i < l := by simpa using (List.getElem?_eq_some_iff.1 hj).1
   rw [List.getElem?_range hi] at hj
   cases hj
   obtain ⟨h1, h2, _⟩ := hch' i (by omega)
   have hs := spot_none (hch' 0 (by omega)).1
   obtain ⟨b, o, sp⟩ := x
   simp [Addr.add] at hs
   subst hs
   exact ⟨b, o, rfl, by rw [← h1, addr_add], h2⟩
  ·intro i e he
   obtain ⟨j, hj, rfl⟩ := map_get he
   have hi : i < l := by simpa using (List.getElem?_eq_some_iff.1 hj).1
   rw [List.getElem?_range hi] at hj
   cases hj
   obtain ⟨_, _, h3⟩ := hch' i (by omega)
   exact ⟨D i, by rw [List.getElem?_map, List.getElem?_range hi]; rfl, h3⟩
theorem arg_gso {H : Type} {enc : TypeId × Value → H} {W : World} {v : Value} {d : DataW H} {p : List MemPlace} {base : Nat}
  (hval : Value.okWide Try.prog W .any base 25 v) (h : DataW.Trod enc Try.prog W 0 (fun _ => true) true 25 v d p) :
  ∃ a n c es b m e rs d1 d2, v = .agg #[.slice a n c, .slice b m e] ∧ Ls W a n c es ∧ Ms W b m e rs ∧ d = .agg [d1, d2] ∧ ReadsL d1 c es ∧ ReadsM d2 e rs := by
 obtain ⟨cs, rfl, hsz⟩ := okWide_struct Try.underlying25 hval
 obtain ⟨w0, w1, rfl⟩ := Go.Joins.array2 (hsz.trans (show Try.prog.cellsOf 25 = 2 by kernel_rfl))
 obtain ⟨fuel, hf⟩ := h
 obtain ⟨y0, y1, k, hx, _, h0, h1⟩ := trod_struct2 Try.underlying25 hf
 have c0 : Try.prog.cellsOf 22 = 1 := by kernel_rfl
 have c1 : Try.prog.cellsOf 23 = 1 := by kernel_rfl
 simp only [c0, c1, Value.cells, List.drop_zero, List.take_succ_cons, List.take_zero, List.drop_succ_cons] at h0 h1
 obtain ⟨a, n, c, es, rfl, s1, r1⟩ := arg_ints_f h0
 obtain ⟨b, m, e, rs, rfl, s2, r2⟩ := arg_rows_f h1
 simp only [Prod.mk.injEq] at hx
 exact ⟨a, n, c, es, b, m, e, rs, y0.1, y1.1, rfl, s1, s2, hx.1, r1, r2⟩
/-- The data as they came in, by worth. -/
theorem gso_hs {W : World} {a b : Option Addr} {n c m e k : Nat} {es : List El} {rs : List Rw} (s1 : Ls W a n c es) (s2 : Ms W b m e rs) (h1 : ∀ (i : Nat) (x : El), es[i]? = some x → x.c ≤ k) (h2 : ∀ (i : Nat) (r : Rw), rs[i]? = some r → r.c ≤ k ∧ ∀ (j : Nat) (x : El), r.es[j]? = some x → x.c ≤ k) :
  Hs W (SF [Vv n (es.map El.z) k, Mv m (zz (rs.map Rw.es)) k]) (.agg #[.slice a n c, .slice b m e]) := fun w' ev => by
 refine ⟨_, rfl, rfl, by simp [Value.oneCell'], fun f p hf => ?_⟩
 match f, hf with
 | 0, hf =>
  obtain rfl := Option.some.inj hf
  refine ⟨_, rfl, vx_vv (fun i x hx => ?_) _ w' (ls_hs s1 w' ev)⟩
  obtain ⟨_, _, _, _, _, hs⟩ := s1.lie i x hx
  exact Nat.le_trans hs.cap (h1 i x hx)
 | 1, hf =>
  obtain rfl := Option.some.inj hf
  exact ⟨_, rfl, mx_mv (ms_n s2 h2).1 _ w' (ms_hs s2 w' ev)⟩
end Go.Proofs.Ytoeopdmaogmjhaa

/-
 GsoNorms' walk.
-/
namespace Go.Proofs.Ytoeopdmaogmjhaa
open Go Go.RowKit Nt
set_option linter.unusedSimpArgs false
set_option linter.unusedVariables false
set_option maxRecDepth 20000

/-! What is held together. -/
theorem take_sum (l : List Nat) (k : Nat) : (l.take k).sum ≤ l.sum := by
 have h : (l.take k ++ l.drop k).sum = l.sum := by rw [List.take_append_drop]
 rw [List.sum_append] at h
 omega
theorem wtD_sum {D : List Int} {l : List Nat} (hl : l.length = D.length) (h : ∀ i, i < D.length → (digs (D.getD i 0).natAbs).length ≤ l.getD i 0) : ∀ k, wtD D k ≤ (l.take k).sum
 | 0 => Nat.zero_le _
 | k + 1 => by
  have ih := wtD_sum hl h k
  simp only [wtD]
  rcases Nat.lt_or_ge k D.length with hk | hk
  ·have h1 := h k hk
   rw [List.take_add_one, List.getElem?_eq_getElem (by omega)]
   rw [List.getD_eq_getElem?_getD, List.getD_eq_getElem?_getD, List.getElem?_eq_getElem (show k < l.length by omega)] at h1
   rw [List.sum_append]
   rw [List.getD_eq_getElem?_getD]
   simp only [Option.getD_some, Option.toList_some, List.sum_cons, List.sum_nil] at h1 ⊢
   omega
  ·rw [List.getD_eq_getElem?_getD, List.getElem?_eq_none hk]
   have e0 : (digs ((none : Option Int).getD 0).natAbs).length = 0 := by show (digs (0 : Int).natAbs).length = 0; rw [show (0 : Int).natAbs = 0 from rfl, digs_zero]; rfl
   rw [e0, List.take_of_length_le (by omega)]
   rw [List.take_of_length_le (by omega)] at ih
   omega
theorem one_sum {es : List El} {i : Nat} {e : El} (h : es[i]? = some e) : e.c + es.length ≤ (es.map (fun e => e.c + 1)).sum := by
 induction es generalizing i with
 | nil => simp at h
 | cons a r ih =>
  have hr : r.length ≤ (r.map (fun e => e.c + 1)).sum := by
   clear ih h
   induction r with
   | nil => simp
   | cons b s ih => simp only [List.map_cons, List.sum_cons, List.length_cons]; omega
  cases i with
  | zero => simp at h; subst h; simp only [List.map_cons, List.sum_cons, List.length_cons]; omega
  | succ i => have := ih (i := i) (by simpa using h); simp only [List.map_cons, List.sum_cons, List.length_cons]; omega
theorem len_sum (es : List El) : es.length ≤ (es.map (fun e => e.c + 1)).sum := by
 induction es with
 | nil => simp
 | cons b s ih => simp only [List.map_cons, List.sum_cons, List.length_cons]; omega
theorem el_dl {w : World} {p : Option Addr} {n c : Nat} {es : List El} (s : Ls w p n c es) (i : Nat) (hi : i < es.length) : (digs ((es.map El.z).getD i 0).natAbs).length ≤ (es.map (fun e => e.c + 1)).getD i 0 := by
 obtain ⟨b, o, _, _, _, hs⟩ := s.lie i _ (List.getElem?_eq_getElem hi)
 have h1 := hs.dl
 have h2 := hs.cap
 rw [List.getD_eq_getElem?_getD, List.getD_eq_getElem?_getD, List.getElem?_map, List.getElem?_map, List.getElem?_eq_getElem hi]
 simp only [Option.map_some, Option.getD_some]
 rw [show (El.z es[i]).natAbs = val (es[i]).xs from sg_abs _ _]
 omega
end Go.Proofs.Ytoeopdmaogmjhaa
