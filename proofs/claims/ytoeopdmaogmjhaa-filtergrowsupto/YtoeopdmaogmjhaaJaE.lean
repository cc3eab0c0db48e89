import Derived.Test.YtoeopdmaogmjhaaSetL
import Derived.Test.YtoeopdmaogmjhaaVcA
import Derived.Test.YtoeopdmaogmjhaaGsA
import Derived.Test.YtoeopdmaogmjhaaJaB
import Derived.Deep.Slices
import Derived.Test.YtoeopdmaogmjhaaJaD
import Derived.Test.YtoeopdmaogmjhaaGsD
/-
 Arguments that are data: two lists in a struct; what the row's reading gives.
-/
namespace Go.Proofs.Ytoeopdmaogmjhaa
open Go.ChangeShapes Go.WideShapes Go.ChangeAt Go.RowKit Nt
set_option linter.unusedSimpArgs false
set_option linter.unusedVariables false
set_option maxRecDepth 20000

theorem arg_rows_f {H : Type} {enc : TypeId × Value → H} {W : World} {v : Value} {y : DataW H × List MemPlace} {fuel : Nat}
  (hf : DataW.trod enc Try.prog W 0 (fun _ => true) true fuel 23 [v] = some y) :
  ∃ a n c rs, v = .slice a n c ∧ Ms W a n c rs ∧ ReadsM y.1 c rs := by
 rcases Go.Deep.open_slice1 Try.underlying23 (by kernel_rfl) hf with ⟨hcs, hx⟩ | ⟨x, l, c', m, k, V, D, Pl, hcs, _, hl, hm, hmm, hx, hall⟩
 ·simp only [List.cons.injEq, and_true] at hcs
  subst hcs
  exact ⟨_, _, _, [], rfl, ⟨rfl, Nat.le_refl _, Nat.zero_le _, fun _ => rfl, fun i e h => by simp at h⟩, Or.inl ⟨by rw [hx], rfl⟩⟩
 ·simp only [List.cons.injEq, and_true] at hcs
  subst hcs
  simp only [if_true] at hmm
  subst hmm
  have each : ∀ i, ∃ r : Rw, i < m → W.cell? (x.add i) = some (.slice r.p r.n r.c) ∧ Ls W r.p r.n r.c r.es ∧ ReadsL (D i) r.c r.es := by
   intro i
   by_cases hi : i < m
   ·obtain ⟨h1, h2⟩ := hall i hi
    obtain ⟨a', n', c'', es', e1, hs, hr⟩ := arg_ints_f h2
    exact ⟨⟨a', n', c'', es'⟩, fun _ => ⟨by rw [h1, e1], hs, hr⟩⟩
   ·exact ⟨default, fun h => absurd h hi⟩
  obtain ⟨E, hch'⟩ : ∃ E : Nat → Rw, ∀ i, i < m → W.cell? (x.add i) = some (.slice (E i).p (E i).n (E i).c) ∧ Ls W (E i).p (E i).n (E i).c (E i).es ∧ ReadsL (D i) (E i).c (E i).es := ⟨fun i => Classical.choose (each i), fun i => Classical.choose_spec (each i)⟩
  refine ⟨_, _, _, (List.range l).map E, rfl, ⟨by simp, hl, hm, (fun e => by cases e), ?_⟩, Or.inr ⟨_, _, by rw [hx], by simp; omega, ?_⟩⟩
  ·intro i e he
   obtain ⟨j, hj, rfl⟩ := map_get he
   have hi : i < l := by simpa using (List.getElem?_eq_some_iff.1 hj).1
   rw [List.getElem?_range hi] at hj
   cases hj
   obtain ⟨h1, h2, _⟩ := hch' i (by omega)
   have hs := spot_none (hch' 0 (by omega)).1
   obtain ⟨b, o, sp⟩ := x
   simp [Addr.add] at hs
   subst hs
   exact ⟨b, o, rfl, by rw [← h1, addr_add], h2⟩
  ·intro i e he
   obtain ⟨j, hj, rfl⟩ := map_get he
   have hi : i < l := by simpa using (List.getElem?_eq_some_iff.1 hj).1
   rw [List.getElem?_range hi] at hj
   cases hj
   obtain ⟨_, _, h3⟩ := hch' i (by omega)
   exact ⟨D i, by rw [List.getElem?_map, List.getElem?_range hi]; rfl, h3⟩
theorem arg_gso {H : Type} {enc : TypeId × Value → H} {W : World} {v : Value} {d : DataW H} {p : List MemPlace} {base : Nat}
  (hval : Value.okWide Try.prog W .any base 25 v) (h : DataW.Trod enc Try.prog W 0 (fun _ => true) true 25 v d p) :
  ∃ a n c es b m e rs d1 d2, v = .agg #[.slice a n c, .slice b m e] ∧ Ls W a n c es ∧ Ms W b m e rs ∧ d = .agg [d1, d2] ∧ ReadsL d1 c es ∧ ReadsM d2 e rs := by
 obtain ⟨cs, rfl, hsz⟩ := okWide_struct Try.underlying25 hval
 obtain ⟨w0, w1, rfl⟩ := Go.Joins.array2 (hsz.trans (show Try.prog.cellsOf 25 = 2 by kernel_rfl))
 obtain ⟨fuel, hf⟩ := h
 obtain ⟨y0, y1, k, hx, _, h0, h1⟩ := trod_struct2 Try.underlying25 hf
 have c0 : Try.prog.cellsOf 22 = 1 := by kernel_rfl
 have c1 : Try.prog.cellsOf 23 = 1 := by kernel_rfl
 simp only [c0, c1, Value.cells, List.drop_zero, List.take_succ_cons, List.take_zero, List.drop_succ_cons] at h0 h1
 obtain ⟨a, n, c, es, rfl, s1, r1⟩ := arg_ints_f h0
 obtain ⟨b, m, e, rs, rfl, s2, r2⟩ := arg_rows_f h1
 simp only [Prod.mk.injEq] at hx
 exact ⟨a, n, c, es, b, m, e, rs, y0.1, y1.1, rfl, s1, s2, hx.1, r1, r2⟩
/-- The data as they came in, by worth. -/
theorem gso_hs {W : World} {a b : Option Addr} {n c m e k : Nat} {es : List El} {rs : List Rw} (s1 : Ls W a n c es) (s2 : Ms W b m e rs) (h1 : ∀ (i : Nat) (x : El), es[i]? = some x → x.c ≤ k) (h2 : ∀ (i : Nat) (r : Rw), rs[i]? = some r → r.c ≤ k ∧ ∀ (j : Nat) (x : El), r.es[j]? = some x → x.c ≤ k) :
  Hs W (SF [Vv n (es.map El.z) k, Mv m (zz (rs.map Rw.es)) k]) (.agg #[.slice a n c, .slice b m e]) := fun w' ev => by
 refine ⟨_, rfl, rfl, by simp [Value.oneCell'], fun f p hf => ?_⟩
 match f, hf with
 | 0, hf =>
  obtain rfl := Option.some.inj hf
  refine ⟨_, rfl, vx_vv (fun i x hx => ?_) _ w' (ls_hs s1 w' ev)⟩
  obtain ⟨_, _, _, _, _, hs⟩ := s1.lie i x hx
  exact Nat.le_trans hs.cap (h1 i x hx)
 | 1, hf =>
  obtain rfl := Option.some.inj hf
  exact ⟨_, rfl, mx_mv (ms_n s2 h2).1 _ w' (ms_hs s2 w' ev)⟩
end Go.Proofs.Ytoeopdmaogmjhaa

/-
 Arguments that are lists of rationals: what the row's reading gives.
-/
namespace Go.Proofs.Ytoeopdmaogmjhaa
open Go.ChangeShapes Go.WideShapes Go.ChangeAt Go.RowKit Nt
set_option linter.unusedSimpArgs false
set_option linter.unusedVariables false
set_option maxRecDepth 20000

/-- A rational as it lies in a list. -/
structure Ra where
 x : El
 y : El
instance : Inhabited Ra := ⟨⟨default, default⟩⟩
/-- The list (p, n, c) holds the rationals rs. -/
structure Qs (w : World) (p : Option Addr) (n c : Nat) (rs : List Ra) : Prop where
 len : rs.length = n
 cap : n ≤ c
 max : c ≤ maxLen
 nil : p = none → c = 0
 lie : ∀ i r, rs[i]? = some r → ∃ b o, p = some ⟨b, o, none⟩ ∧ (w.cell? ⟨b, o + 4 * i, none⟩ = some (.bool r.x.s) ∧ w.cell? ⟨b, o + 4 * i + 1, none⟩ = some (.slice r.x.p r.x.n r.x.c) ∧ w.cell? ⟨b, o + 4 * i + 2, none⟩ = some (.bool r.y.s) ∧ w.cell? ⟨b, o + 4 * i + 3, none⟩ = some (.slice r.y.p r.y.n r.y.c)) ∧ Sl w r.x.p r.x.n r.x.c r.x.xs ∧ Sl w r.y.p r.y.n r.y.c r.y.xs
/-- How a list of rationals is read. -/
def ReadsQ {H : Type} (d : DataW H) (c : Nat) (rs : List Ra) : Prop :=
 (d = .nil ∧ c = 0) ∨ ∃ ds sp : List (DataW H), d = .slice ds sp ∧ c = ds.length + sp.length ∧ ∀ (i : Nat) (r : Ra), rs[i]? = some r → ∃ d1 d2, ds[i]? = some (DataW.agg [.agg [.lit (.bool r.x.s), d1], .agg [.lit (.bool r.y.s), d2]]) ∧ Reads d1 r.x.c ∧ Reads d2 r.y.c
theorem arg_rats {H : Type} {enc : TypeId × Value → H} {W : World} {v : Value} {d : DataW H} {p : List MemPlace} {base : Nat}
  (hval : Value.okWide Try.prog W .any base 26 v) (h : DataW.Trod enc Try.prog W 0 (fun _ => true) true 26 v d p) :
  ∃ a n c rs, v = .slice a n c ∧ Qs W a n c rs ∧ ReadsQ d c rs := by
 obtain ⟨a, n, c, rfl⟩ := okWide_slice Try.underlying26 hval
 obtain ⟨fuel, hf⟩ := h
 rcases Go.Deep.open_slice Try.underlying26 hf with ⟨hcs, hx⟩ | ⟨x, l, c', m, k, D, Pl, hcs, _, hl, hm, hmm, hx, hall⟩
 ·simp [Value.cells] at hcs
  obtain ⟨rfl, rfl, rfl⟩ := hcs
  simp only [Prod.mk.injEq] at hx
  exact ⟨_, _, _, [], rfl, ⟨rfl, Nat.le_refl _, Nat.zero_le _, fun _ => rfl, fun i e h => by simp at h⟩, Or.inl ⟨hx.1, rfl⟩⟩
 ·simp [Value.cells] at hcs
  obtain ⟨rfl, rfl, rfl⟩ := hcs
  simp only [Prod.mk.injEq] at hx
  simp only [if_true] at hmm
  subst hmm
  have c4 : Try.prog.cellsOf 32 = 4 := by kernel_rfl
  have each : ∀ i, ∃ r : Ra, i < m → (W.cell? (x.add (i * 4)) = some (.bool r.x.s) ∧ W.cell? (x.add (i * 4 + 1)) = some (.slice r.x.p r.x.n r.x.c) ∧ W.cell? (x.add (i * 4 + 2)) = some (.bool r.y.s) ∧ W.cell? (x.add (i * 4 + 3)) = some (.slice r.y.p r.y.n r.y.c)) ∧ Sl W r.x.p r.x.n r.x.c r.x.xs ∧ Sl W r.y.p r.y.n r.y.c r.y.xs ∧ ∃ d1 d2, D i = .agg [.agg [.lit (.bool r.x.s), d1], .agg [.lit (.bool r.y.s), d2]] ∧ Reads d1 r.x.c ∧ Reads d2 r.y.c := by
   intro i
   by_cases hi : i < m
   ·obtain ⟨cs, h1, h2⟩ := hall i hi
    rw [c4] at h1
    obtain ⟨_, hlen, hcell⟩ := World.cells?_some h1
    match cs, hlen with
    | [v0, v1, v2, v3], _ =>
     obtain ⟨y0, y1, k', hxx, _, g0, g1⟩ := trod_struct2 Try.underlying32 h2
     have c0 : Try.prog.cellsOf 29 = 2 := by kernel_rfl
     simp only [c0, Value.cells, List.drop_zero, List.take_succ_cons, List.take_zero, List.drop_succ_cons] at g0 g1
     obtain ⟨s, a, n', c, xs, d1, rfl, rfl, s1, e1, r1⟩ := cells_int g0
     obtain ⟨t, b, m', e, ys, d2, rfl, rfl, s2, e2, r2⟩ := cells_int g1
     simp only [Prod.mk.injEq] at hxx
     have e0 := hcell 0 (by omega)
     have e1' := hcell 1 (by omega)
     have e2' := hcell 2 (by omega)
     have e3' := hcell 3 (by omega)
     rw [Go.Deep.add_add] at e0 e1' e2' e3'
     exact ⟨⟨⟨s, a, n', c, xs⟩, ⟨t, b, m', e, ys⟩⟩, fun _ => ⟨⟨by simpa using e0, by simpa using e1', by simpa using e2', by simpa using e3'⟩, s1, s2, d1, d2, by rw [hxx.1, e1, e2], r1, r2⟩⟩
   ·exact ⟨default, fun h => absurd h hi⟩
  obtain ⟨E, hch⟩ : ∃ E : Nat → Ra, ∀ i, i < m → (W.cell? (x.add (i * 4)) = some (.bool (E i).x.s) ∧ W.cell? (x.add (i * 4 + 1)) = some (.slice (E i).x.p (E i).x.n (E i).x.c) ∧ W.cell? (x.add (i * 4 + 2)) = some (.bool (E i).y.s) ∧ W.cell? (x.add (i * 4 + 3)) = some (.slice (E i).y.p (E i).y.n (E i).y.c)) ∧ Sl W (E i).x.p (E i).x.n (E i).x.c (E i).x.xs ∧ Sl W (E i).y.p (E i).y.n (E i).y.c (E i).y.xs ∧ ∃ d1 d2, D i = .agg [.agg [.lit (.bool (E i).x.s), d1], .agg [.lit (.bool (E i).y.s), d2]] ∧ Reads d1 (E i).x.c ∧ Reads d2 (E i).y.c := ⟨fun i => Classical.choose (each i), fun i => Classical.choose_spec (each i)⟩
  refine ⟨_, _, _, (List.range n).map E, rfl, ⟨by simp, hl, hm, (fun e => by cases e), ?_⟩, Or.inr ⟨_, _, hx.1, by simp; omega, ?_⟩⟩
  ·intro i e he
   obtain ⟨j, hj, rfl⟩ := map_get he
   have hi : i < n := by simpa using (List.getElem?_eq_some_iff.1 hj).1
   rw [List.getElem?_range hi] at hj
   cases hj
   obtain ⟨⟨h1, h2, h3, h4⟩, h5, h6, _⟩ := hch i (by omega)
   have hs := spot_none (hch 0 (by omega)).1.1
   obtain ⟨b, o, sp⟩ := x
   simp [Addr.add] at hs
   subst hs
   refine ⟨b, o, rfl, ⟨?_, ?_, ?_, ?_⟩, h5, h6⟩
   ·rw [← h1, addr_add, Nat.mul_comm]
   ·rw [← h2, addr_add, Nat.mul_comm i 4]; rfl
   ·rw [← h3, addr_add, Nat.mul_comm i 4]; rfl
   ·rw [← h4, addr_add, Nat.mul_comm i 4]; rfl
  ·intro i e he
   obtain ⟨j, hj, rfl⟩ := map_get he
   have hi : i < n := by simpa using (List.getElem?_eq_some_iff.1 hj).1
   rw [List.getElem?_range hi] at hj
   cases hj
   obtain ⟨_, _, _, d1, d2, h3, h4, h5⟩ := hch i (by omega)
   exact ⟨d1, d2, by rw [List.getElem?_map, List.getElem?_range hi, ← h3]; rfl, h4, h5⟩
theorem qs_ev {w w' : World} {p : Option Addr} {n c : Nat} {rs : List Ra} (h : Qs w p n c rs) (e : Ev (fun _ => False) w w') : Qs w' p n c rs :=
 ⟨h.len, h.cap, h.max, h.nil, fun i x hx => by
  obtain ⟨b, o, e1, ⟨h1, h2, h3, h4⟩, h5, h6⟩ := h.lie i x hx
  exact ⟨b, o, e1, ⟨cell_ev h1 e, cell_ev h2 e, cell_ev h3 e, cell_ev h4 e⟩, sl_ev h5 (fun _ _ _ _ h => h) e, sl_ev h6 (fun _ _ _ _ h => h) e⟩⟩
abbrev qz (rs : List Ra) : List (Int × Int) := rs.map (fun r => (r.x.z, r.y.z))
theorem qs_qv {w : World} {p : Option Addr} {n c k : Nat} {rs : List Ra} (h : Qs w p n c rs) (hk : ∀ (i : Nat) r, rs[i]? = some r → r.x.n ≤ k ∧ r.y.n ≤ k) : QV n (qz rs) k (.slice p n c) w :=
 ⟨p, c, rfl, by simp [h.len], ⟨h.cap, h.max, h.nil⟩, fun i φ hφ => by
  obtain ⟨e, he, rfl⟩ := map_get hφ
  obtain ⟨r, hr, rfl⟩ := map_get he
  obtain ⟨b, o, e1, ⟨h1, h2, h3, h4⟩, h5, h6⟩ := h.lie i r hr
  obtain ⟨k1, k2⟩ := hk i r hr
  refine ⟨b, o, .agg #[.bool r.x.s, .slice r.x.p r.x.n r.x.c, .bool r.y.s, .slice r.y.p r.y.n r.y.c], e1, fun j x hx => ?_, rfl, ?_⟩
  ·match j, hx with
   | 0, hx => simp [Value.cells] at hx; subst hx; exact h1
   | 1, hx => simp [Value.cells] at hx; subst hx; exact h2
   | 2, hx => simp [Value.cells] at hx; subst hx; exact h3
   | 3, hx => simp [Value.cells] at hx; subst hx; exact h4
   | j + 4, hx => simp [Value.cells] at hx
  ·exact ⟨_, _, _, _, rfl, ⟨_, _, _, _, _, rfl, h5, rfl, k1⟩, ⟨_, _, _, _, _, rfl, h6, rfl, k2⟩⟩⟩
theorem qs_hs {w : World} {p : Option Addr} {n c k : Nat} {rs : List Ra} (h : Qs w p n c rs) (hk : ∀ (i : Nat) r, rs[i]? = some r → r.x.n ≤ k ∧ r.y.n ≤ k) : Hs w (QV n (qz rs) k) (.slice p n c) := fun w' e => qs_qv (qs_ev h e) hk
end Go.Proofs.Ytoeopdmaogmjhaa

/-
 A list of rationals that comes in: how long its denominators are together.
-/
namespace Go.Proofs.Ytoeopdmaogmjhaa
open Go Go.RowKit Nt
set_option linter.unusedSimpArgs false
set_option linter.unusedVariables false
set_option maxRecDepth 20000

theorem sum_q : ∀ (rq : List Ra), (rq.map (fun r => r.x.c)).sum + (rq.map (fun r => r.y.c)).sum + rq.length = (rq.map (fun r => r.x.c + r.y.c + 1)).sum
 | [] => rfl
 | a :: r => by
  have := sum_q r
  simp only [List.map_cons, List.sum_cons, List.length_cons]
  omega
theorem mem_sum {α : Type} (f : α → Nat) : ∀ {l : List α} {i : Nat} {a : α}, l[i]? = some a → f a ≤ (l.map f).sum
 | b :: r, 0, a, h => by
  simp at h
  subst h
  simp only [List.map_cons, List.sum_cons]
  omega
 | b :: r, i + 1, a, h => by
  have := mem_sum f (l := r) (i := i) (a := a) (by simpa using h)
  simp only [List.map_cons, List.sum_cons]
  omega
theorem qz_get {rq : List Ra} {k : Nat} {r : Ra} (h : rq[k]? = some r) : (qz rq).getD k (0, 0) = (r.x.z, r.y.z) := by
 rw [List.getD_eq_getElem?_getD, List.getElem?_map, h]
 rfl
theorem dsum_take {w : World} {p : Option Addr} {n c : Nat} {rq : List Ra} (s : Qs w p n c rq) : ∀ k, k ≤ n → dsum (qz rq) k ≤ 1 + ((rq.take k).map (fun r => r.y.c)).sum
 | 0, _ => Nat.le_refl _
 | k + 1, hk => by
  have ih := dsum_take s k (by omega)
  have hr : rq[k]? = some (rq[k]'(by have := s.len; omega)) := List.getElem?_eq_getElem _
  generalize rq[k]'(by have := s.len; omega) = r at hr
  obtain ⟨b, o, _, _, _, h6⟩ := s.lie k r hr
  have h7 : (digs (r.y.z).natAbs).length ≤ r.y.n := sg_dl h6
  have h8 := h6.cap
  rw [dsum, qz_get hr, List.take_add_one, hr]
  simp only [Option.toList_some, List.map_append, List.map_cons, List.map_nil, List.sum_append, List.sum_cons, List.sum_nil]
  omega
theorem co_tot {w : World} {p : Option Addr} {n c : Nat} {rq : List Ra} (s : Qs w p n c rq) (t : (rq.map (fun r => r.x.c + r.y.c + 1)).sum ≤ 1048576) :
  n ≤ 1048576 ∧ (∀ (i : Nat) r, rq[i]? = some r → r.x.n ≤ 1048576 ∧ r.y.n ≤ 1048576) ∧ dsum (qz rq) n ≤ 1048577 ∧ ∀ k, k < n → (digs ((qz rq).getD k (0, 0)).1.natAbs).length + dsum (qz rq) n ≤ 1048577 := by
 have hl := s.len
 have h1 := sum_q rq
 have h2 := dsum_take s n (Nat.le_refl _)
 rw [List.take_of_length_le (by omega)] at h2
 refine ⟨by omega, fun i r hr => ?_, by omega, fun k hk => ?_⟩
 ·obtain ⟨b, o, _, _, h5, h6⟩ := s.lie i r hr
  have h3 := mem_sum (fun r : Ra => r.x.c) hr
  have h4 := mem_sum (fun r : Ra => r.y.c) hr
  have := h5.cap
  have := h6.cap
  have h3' : r.x.c ≤ (rq.map (fun r => r.x.c)).sum := h3
  have h4' : r.y.c ≤ (rq.map (fun r => r.y.c)).sum := h4
  omega
 ·have hr : rq[k]? = some (rq[k]'(by omega)) := List.getElem?_eq_getElem _
  generalize rq[k]'(by omega) = r at hr
  obtain ⟨b, o, _, _, h5, h6⟩ := s.lie k r hr
  have h3 := mem_sum (fun r : Ra => r.x.c) hr
  have h7 : (digs (r.x.z).natAbs).length ≤ r.x.n := sg_dl h5
  have := h5.cap
  rw [qz_get hr]
  show (digs (r.x.z).natAbs).length + _ ≤ _
  have h3' : r.x.c ≤ (rq.map (fun r => r.x.c)).sum := h3
  omega
end Go.Proofs.Ytoeopdmaogmjhaa

/-
 GsoNorms' walk.
-/
namespace Go.Proofs.Ytoeopdmaogmjhaa
open Go Go.RowKit Nt
set_option linter.unusedSimpArgs false
set_option linter.unusedVariables false
set_option maxRecDepth 20000

/-! What is held together. -/
theorem take_sum (l : List Nat) (k : Nat) : (l.take k).sum ≤ l.sum := by
 have h : (l.take k ++ l.drop k).sum = l.sum := by rw [List.take_append_drop]
 rw [List.sum_append] at h
 omega
theorem wtD_sum {D : List Int} {l : List Nat} (hl : l.length = D.length) (h : ∀ i, i < D.length → (digs (D.getD i 0).natAbs).length ≤ l.getD i 0) : ∀ k, wtD D k ≤ (l.take k).sum
 | 0 => Nat.zero_le _
 | k + 1 => by
  have ih := wtD_sum hl h k
  simp only [wtD]
  rcases Nat.lt_or_ge k D.length with hk | hk
  ·have h1 := h k hk
   rw [List.take_add_one, List.getElem?_eq_getElem (by omega)]
   rw [List.getD_eq_getElem?_getD, List.getD_eq_getElem?_getD, List.getElem?_eq_getElem (show k < l.length by omega)] at h1
   rw [List.sum_append]
   rw [List.getD_eq_getElem?_getD]
   simp only [Option.getD_some, Option.toList_some, List.sum_cons, List.sum_nil] at h1 ⊢
   omega
  ·rw [List.getD_eq_getElem?_getD, List.getElem?_eq_none hk]
   have e0 : (digs ((none : Option Int).getD 0).natAbs).length = 0 := by show (digs (0 : Int).natAbs).length = 0; rw [show (0 : Int).natAbs = 0 from rfl, digs_zero]; rfl
   rw [e0, List.take_of_length_le (by omega)]
   rw [List.take_of_length_le (by omega)] at ih
   omega
theorem one_sum {es : List El} {i : Nat} {e : El} (h : es[i]? = some e) : e.c + es.length ≤ (es.map (fun e => e.c + 1)).sum := by
 induction es generalizing i with
 | nil => simp at h
 | cons a r ih =>
  have hr : r.length ≤ (r.map (fun e => e.c + 1)).sum := by
   clear ih h
   induction r with
   | nil => simp
   | cons b s ih => simp only [List.map_cons, List.sum_cons, List.length_cons]; omega
  cases i with
  | zero => simp at h; subst h; simp only [List.map_cons, List.sum_cons, List.length_cons]; omega
  | succ i => have := ih (i := i) (by simpa using h); simp only [List.map_cons, List.sum_cons, List.length_cons]; omega
theorem len_sum (es : List El) : es.length ≤ (es.map (fun e => e.c + 1)).sum := by
 induction es with
 | nil => simp
 | cons b s ih => simp only [List.map_cons, List.sum_cons, List.length_cons]; omega
theorem el_dl {w : World} {p : Option Addr} {n c : Nat} {es : List El} (s : Ls w p n c es) (i : Nat) (hi : i < es.length) : (digs ((es.map El.z).getD i 0).natAbs).length ≤ (es.map (fun e => e.c + 1)).getD i 0 := by
 obtain ⟨b, o, _, _, _, hs⟩ := s.lie i _ (List.getElem?_eq_getElem hi)
 have h1 := hs.dl
 have h2 := hs.cap
 rw [List.getD_eq_getElem?_getD, List.getD_eq_getElem?_getD, List.getElem?_map, List.getElem?_map, List.getElem?_eq_getElem hi]
 simp only [Option.map_some, Option.getD_some]
 rw [show (El.z es[i]).natAbs = val (es[i]).xs from sg_abs _ _]
 omega
end Go.Proofs.Ytoeopdmaogmjhaa
