import Derived.Test.YtdiagoaakadniaaGreatSetL
import Derived.Test.YtdiagoaakadniaaGreatVcA
import Derived.Test.YtdiagoaakadniaaGreatTrV
import Derived.Deep.Slices
import Derived.Test.YtdiagoaakadniaaGreatCoC
import Derived.Test.YtdiagoaakadniaaGreatGsD
import Derived.Test.YtdiagoaakadniaaGreatGlA
namespace Go.Proofs.YtdiagoaakadniaaGreat
open Go.ChangeShapes Go.WideShapes Go.ChangeAt Go.RowKit Nt
set_option linter.unusedSimpArgs false
set_option linter.unusedVariables false
set_option maxRecDepth 20000
set_option maxHeartbeats 16000000
structure Ra where
 x : El
 y : El
instance : Inhabited Ra := ⟨⟨default, default⟩⟩
structure Qs (w : World) (p : Option Addr) (n c : Nat) (rs : List Ra) : Prop where
 len : rs.length = n
 cap : n ≤ c
 max : c ≤ maxLen
 nil : p = none → c = 0
 lie : ∀ i r, rs[i]? = some r → ∃ b o, p = some ⟨b, o, none⟩ ∧ (w.cell? ⟨b, o + 4 * i, none⟩ = some (.bool r.x.s) ∧ w.cell? ⟨b, o + 4 * i + 1, none⟩ = some (.slice r.x.p r.x.n r.x.c) ∧ w.cell? ⟨b, o + 4 * i + 2, none⟩ = some (.bool r.y.s) ∧ w.cell? ⟨b, o + 4 * i + 3, none⟩ = some (.slice r.y.p r.y.n r.y.c)) ∧ Sl w r.x.p r.x.n r.x.c r.x.xs ∧ Sl w r.y.p r.y.n r.y.c r.y.xs
def ReadsQ {H : Type} (d : DataW H) (c : Nat) (rs : List Ra) : Prop :=
 (d = .nil ∧ c = 0) ∨ ∃ ds sp : List (DataW H), d = .slice ds sp ∧ c = ds.length + sp.length ∧ ∀ (i : Nat) (r : Ra), rs[i]? = some r → ∃ d1 d2, ds[i]? = some (DataW.agg [.agg [.lit (.bool r.x.s), d1], .agg [.lit (.bool r.y.s), d2]]) ∧ Reads d1 r.x.c ∧ Reads d2 r.y.c
theorem arg_rats {H : Type} {enc : TypeId × Value → H} {W : World} {v : Value} {d : DataW H} {p : List MemPlace} {base : Nat}
  (hval : Value.okWide Tryz.prog W .any base 23 v) (h : DataW.Trod enc Tryz.prog W 0 (fun _ => true) true 23 v d p) :
  ∃ a n c rs, v = .slice a n c ∧ Qs W a n c rs ∧ ReadsQ d c rs := by
 obtain ⟨a, n, c, rfl⟩ := okWide_slice Tryz.underlying23 hval
 obtain ⟨fuel, hf⟩ := h
 rcases Go.Deep.open_slice Tryz.underlying23 hf with ⟨hcs, hx⟩ | ⟨x, l, c', m, k, D, Pl, hcs, _, hl, hm, hmm, hx, hall⟩
 ·simp [Value.cells] at hcs
  obtain ⟨rfl, rfl, rfl⟩ := hcs
  simp only [Prod.mk.injEq] at hx
  exact ⟨_, _, _, [], rfl, ⟨rfl, Nat.le_refl _, Nat.zero_le _, fun _ => rfl, fun i e h => by simp at h⟩, Or.inl ⟨hx.1, rfl⟩⟩
 ·simp [Value.cells] at hcs
  obtain ⟨rfl, rfl, rfl⟩ := hcs
  simp only [Prod.mk.injEq] at hx
  simp only [if_true] at hmm
  subst hmm
  have c4 : Tryz.prog.cellsOf 28 = 4 := by kernel_rfl
  have each : ∀ i, ∃ r : Ra, i < m → (W.cell? (x.add (i * 4)) = some (.bool r.x.s) ∧ W.cell? (x.add (i * 4 + 1)) = some (.slice r.x.p r.x.n r.x.c) ∧ W.cell? (x.add (i * 4 + 2)) = some (.bool r.y.s) ∧ W.cell? (x.add (i * 4 + 3)) = some (.slice r.y.p r.y.n r.y.c)) ∧ Sl W r.x.p r.x.n r.x.c r.x.xs ∧ Sl W r.y.p r.y.n r.y.c r.y.xs ∧ ∃ d1 d2, D i = .agg [.agg [.lit (.bool r.x.s), d1], .agg [.lit (.bool r.y.s), d2]] ∧ Reads d1 r.x.c ∧ Reads d2 r.y.c := by
   intro i
   by_cases hi : i < m
   ·obtain ⟨cs, h1, h2⟩ := hall i hi
    rw [c4] at h1
    obtain ⟨_, hlen, hcell⟩ := World.cells?_some h1
    match cs, hlen with
    | [v0, v1, v2, v3], _ =>
     obtain ⟨y0, y1, k', hxx, _, g0, g1⟩ := trod_struct2 Tryz.underlying28 h2
     have c0 : Tryz.prog.cellsOf 26 = 2 := by kernel_rfl
     simp only [c0, Value.cells, List.drop_zero, List.take_succ_cons, List.take_zero, List.drop_succ_cons] at g0 g1
     obtain ⟨s, a, n', c, xs, d1, rfl, rfl, s1, e1, r1⟩ := ymg g0
     obtain ⟨t, b, m', e, ys, d2, rfl, rfl, s2, e2, r2⟩ := ymg g1
     simp only [Prod.mk.injEq] at hxx
     have e0 := hcell 0 (by omega)
     have e1' := hcell 1 (by omega)
     have e2' := hcell 2 (by omega)
     have e3' := hcell 3 (by omega)
     rw [Go.Deep.add_add] at e0 e1' e2' e3'
     exact ⟨⟨⟨s, a, n', c, xs⟩, ⟨t, b, m', e, ys⟩⟩, fun _ => ⟨⟨by simpa using e0, by simpa using e1', by simpa using e2', by simpa using e3'⟩, s1, s2, d1, d2, by rw [hxx.1, e1, e2], r1, r2⟩⟩
   ·exact ⟨default, fun h => absurd h hi⟩
  obtain ⟨E, hch⟩ : ∃ E : Nat → Ra, ∀ i, i < m → (W.cell? (x.add (i * 4)) = some (.bool (E i).x.s) ∧ W.cell? (x.add (i * 4 + 1)) = some (.slice (E i).x.p (E i).x.n (E i).x.c) ∧ W.cell? (x.add (i * 4 + 2)) = some (.bool (E i).y.s) ∧ W.cell? (x.add (i * 4 + 3)) = some (.slice (E i).y.p (E i).y.n (E i).y.c)) ∧ Sl W (E i).x.p (E i).x.n (E i).x.c (E i).x.xs ∧ Sl W (E i).y.p (E i).y.n (E i).y.c (E i).y.xs ∧ ∃ d1 d2, D i = .agg [.agg [.lit (.bool (E i).x.s), d1], .agg [.lit (.bool (E i).y.s), d2]] ∧ Reads d1 (E i).x.c ∧ Reads d2 (E i).y.c := ⟨fun i => Classical.choose (each i), fun i => Classical.choose_spec (each i)⟩
  refine ⟨_, _, _, (List.range n).map E, rfl, ⟨by simp, hl, hm, (fun e => by cases e), ?_⟩, Or.inr ⟨_, _, hx.1, by simp; omega, ?_⟩⟩
  ·intro i e he
   obtain ⟨j, hj, rfl⟩ := yba he
   have hi : i < n := by simpa using (List.getElem?_eq_some_iff.1 hj).1
   rw [List.getElem?_range hi] at hj
   cases hj
   obtain ⟨⟨h1, h2, h3, h4⟩, h5, h6, _⟩ := hch i (by omega)
   have hs := yg0 (hch 0 (by omega)).1.1
   obtain ⟨b, o, sp⟩ := x
   simp [Addr.add] at hs
   subst hs
   refine ⟨b, o, rfl, ⟨?_, ?_, ?_, ?_⟩, h5, h6⟩
   ·rw [← h1, yco, Nat.mul_comm]
   ·rw [← h2, yco, Nat.mul_comm i 4]; rfl
   ·rw [← h3, yco, Nat.mul_comm i 4]; rfl
   ·rw [← h4, yco, Nat.mul_comm i 4]; rfl
  ·intro i e he
   obtain ⟨j, hj, rfl⟩ := yba he
   have hi : i < n := by simpa using (List.getElem?_eq_some_iff.1 hj).1
   rw [List.getElem?_range hi] at hj
   cases hj
   obtain ⟨_, _, _, d1, d2, h3, h4, h5⟩ := hch i (by omega)
   exact ⟨d1, d2, by rw [List.getElem?_map, List.getElem?_range hi, ← h3]; rfl, h4, h5⟩
theorem qs_ev {w w' : World} {p : Option Addr} {n c : Nat} {rs : List Ra} (h : Qs w p n c rs) (e : Ev (fun _ => False) w w') : Qs w' p n c rs :=
 ⟨h.len, h.cap, h.max, h.nil, fun i x hx => by
  obtain ⟨b, o, e1, ⟨h1, h2, h3, h4⟩, h5, h6⟩ := h.lie i x hx
  exact ⟨b, o, e1, ⟨ye5 h1 e, ye5 h2 e, ye5 h3 e, ye5 h4 e⟩, ynt h5 (fun _ _ _ _ h => h) e, ynt h6 (fun _ _ _ _ h => h) e⟩⟩
abbrev qz (rs : List Ra) : List (Int × Int) := rs.map (fun r => (r.x.z, r.y.z))
theorem qs_qv {w : World} {p : Option Addr} {n c k : Nat} {rs : List Ra} (h : Qs w p n c rs) (hk : ∀ (i : Nat) r, rs[i]? = some r → r.x.n ≤ k ∧ r.y.n ≤ k) : QV n (qz rs) k (.slice p n c) w :=
 ⟨p, c, rfl, by simp [h.len], ⟨h.cap, h.max, h.nil⟩, fun i φ hφ => by
  obtain ⟨e, he, rfl⟩ := yba hφ
  obtain ⟨r, hr, rfl⟩ := yba he
  obtain ⟨b, o, e1, ⟨h1, h2, h3, h4⟩, h5, h6⟩ := h.lie i r hr
  obtain ⟨k1, k2⟩ := hk i r hr
  refine ⟨b, o, .agg #[.bool r.x.s, .slice r.x.p r.x.n r.x.c, .bool r.y.s, .slice r.y.p r.y.n r.y.c], e1, fun j x hx => ?_, rfl, ?_⟩
  ·match j, hx with
   | 0, hx => simp [Value.cells] at hx; subst hx; exact h1
   | 1, hx => simp [Value.cells] at hx; subst hx; exact h2
   | 2, hx => simp [Value.cells] at hx; subst hx; exact h3
   | 3, hx => simp [Value.cells] at hx; subst hx; exact h4
   | j + 4, hx => simp [Value.cells] at hx
  ·exact ⟨_, _, _, _, rfl, ⟨_, _, _, _, _, rfl, h5, rfl, k1⟩, ⟨_, _, _, _, _, rfl, h6, rfl, k2⟩⟩⟩
theorem qs_hs {w : World} {p : Option Addr} {n c k : Nat} {rs : List Ra} (h : Qs w p n c rs) (hk : ∀ (i : Nat) r, rs[i]? = some r → r.x.n ≤ k ∧ r.y.n ≤ k) : Hs w (QV n (qz rs) k) (.slice p n c) := fun w' e => qs_qv (qs_ev h e) hk
end Go.Proofs.YtdiagoaakadniaaGreat

namespace Go.Proofs.YtdiagoaakadniaaGreat
open Go Go.RowKit Nt
set_option linter.unusedSimpArgs false
set_option linter.unusedVariables false
set_option maxRecDepth 20000
set_option maxHeartbeats 16000000
theorem sum_q : ∀ (rq : List Ra), (rq.map (fun r => r.x.c)).sum + (rq.map (fun r => r.y.c)).sum + rq.length = (rq.map (fun r => r.x.c + r.y.c + 1)).sum
 | [] => rfl
 | a :: r => by
  have := sum_q r
  simp only [List.map_cons, List.sum_cons, List.length_cons]
  omega
theorem yla {α : Type} (f : α → Nat) : ∀ {l : List α} {i : Nat} {a : α}, l[i]? = some a → f a ≤ (l.map f).sum
 | b :: r, 0, a, h => by
  simp at h
  subst h
  simp only [List.map_cons, List.sum_cons]
  omega
 | b :: r, i + 1, a, h => by
  have := yla f (l := r) (i := i) (a := a) (by simpa using h)
  simp only [List.map_cons, List.sum_cons]
  omega
theorem qz_get {rq : List Ra} {k : Nat} {r : Ra} (h : rq[k]? = some r) : (qz rq).getD k (0, 0) = (r.x.z, r.y.z) := by
 rw [List.getD_eq_getElem?_getD, List.getElem?_map, h]
 rfl
theorem yml {w : World} {p : Option Addr} {n c : Nat} {rq : List Ra} (s : Qs w p n c rq) : ∀ k, k ≤ n → dsum (qz rq) k ≤ 1 + ((rq.take k).map (fun r => r.y.c)).sum
 | 0, _ => Nat.le_refl _
 | k + 1, hk => by
  have ih := yml s k (by omega)
  have hr : rq[k]? = some (rq[k]'(by have := s.len; omega)) := List.getElem?_eq_getElem _
  generalize rq[k]'(by have := s.len; omega) = r at hr
  obtain ⟨b, o, _, _, _, h6⟩ := s.lie k r hr
  have h7 : (digs (r.y.z).natAbs).length ≤ r.y.n := sg_dl h6
  have h8 := h6.cap
  rw [dsum, qz_get hr, List.take_add_one, hr]
  simp only [Option.toList_some, List.map_append, List.map_cons, List.map_nil, List.sum_append, List.sum_cons, List.sum_nil]
  omega
theorem co_tot {w : World} {p : Option Addr} {n c : Nat} {rq : List Ra} (s : Qs w p n c rq) (t : (rq.map (fun r => r.x.c + r.y.c + 1)).sum ≤ 1048576) :
  n ≤ 1048576 ∧ (∀ (i : Nat) r, rq[i]? = some r → r.x.n ≤ 1048576 ∧ r.y.n ≤ 1048576) ∧ dsum (qz rq) n ≤ 1048577 ∧ ∀ k, k < n → (digs ((qz rq).getD k (0, 0)).1.natAbs).length + dsum (qz rq) n ≤ 1048577 := by
 have hl := s.len
 have h1 := sum_q rq
 have h2 := yml s n (Nat.le_refl _)
 rw [List.take_of_length_le (by omega)] at h2
 refine ⟨by omega, fun i r hr => ?_, by omega, fun k hk => ?_⟩
 ·obtain ⟨b, o, _, _, h5, h6⟩ := s.lie i r hr
  have h3 := yla (fun r : Ra => r.x.c) hr
  have h4 := yla (fun r : Ra => r.y.c) hr
  have := h5.cap
  have := h6.cap
  have h3' : r.x.c ≤ (rq.map (fun r => r.x.c)).sum := h3
  have h4' : r.y.c ≤ (rq.map (fun r => r.y.c)).sum := h4
  omega
 ·have hr : rq[k]? = some (rq[k]'(by omega)) := List.getElem?_eq_getElem _
  generalize rq[k]'(by omega) = r at hr
  obtain ⟨b, o, _, _, h5, h6⟩ := s.lie k r hr
  have h3 := yla (fun r : Ra => r.x.c) hr
  have h7 : (digs (r.x.z).natAbs).length ≤ r.x.n := sg_dl h5
  have := h5.cap
  rw [qz_get hr]
  show (digs (r.x.z).natAbs).length + _ ≤ _
  have h3' : r.x.c ≤ (rq.map (fun r => r.x.c)).sum := h3
  omega
abbrev yp8 (w : World) (e0 : Int) : Pr := (THREE (IS (.slice none 0 0)) (IS (.agg #[.bool false, .slice none 0 0, .bool false, .slice none 0 0])) (IS (.int .i64 e0))) w.heap.size
abbrev yja  : Rk := .box 28 zR
theorem gc_e (w : World) (u v : Value) (n m Kb K : Nat) (Bm : List (List Int)) (ts : List (Int × Int)) (h : Hs w (Mv n Bm Kb) u) (hv : Hs w (QV m ts K) v) (hn : n ≤ 1048576) (hm : m ≤ 1048576) (e0 : Int) (hc : CoG n m Kb K Bm ts (CoE e0)) (hr : RcG n m Kb K Bm ts (CoE e0)) :
  Calls Tryz.prog 3 #[u, v] w (Gives (IS (.bool true)) w) := by
 refine yam (sl := [(0, (Mv n Bm Kb)), (1, (QV m ts K))]) Tryz.func3 rfl Tryz.ntmps3 (by simp) (yab rfl (h) (yab rfl (hv) yaq)) ?_
 intro a0 S0
 refine wq [kF] [] [.inr 0, .inr 1] S0 ?_ ?_
 ·apply jj1
  ·exact mC
 intro _ a1 _ (S1 : Sta w 59 [] [(0, Mv n Bm Kb), (1, (QV m ts K))] _ _ _)
 refine wq [.val (Mv n Bm Kb), .val (QV m ts K), .val (yp8 w e0), .val (yp8 w e0), .val (Is (.slice none 0 0)), .val zR, .val (iV e0), .new (yja), .val (Is (.slice none 0 0)), .put (.inr 7) (yja), .val (iV e0)] [.inl 7] [.inl 8, .inl 10, .inr 0, .inr 1] S1 ?_ ?_
 ·repeat' refine And.intro ?_ ?_
  ·trivial
  ·exact mS 0 0
  ·exact mS 1 1
  ·exact ch2 wA (qO 0 13 rfl) (qO 1 14 rfl) (ydd (yak _) (yak _) (yak _)) (fun w u v h1 h2 => hc w u v h1 h2)
  ·exact mO 2 15
  ·exact e30 wA (oO 3 12)
  ·exact e31 wA (oO 3 12)
  ·exact e32 wA (oO 3 12)
  ·exact yat rfl wA rfl rfl (fun ρ w => ybd ρ _ w)
  ·exact mO 4 16
  ·exact ybj 7 rfl wA rfl (by kernel_rfl) rfl (oO 5 17) (yaf yah ybr ybr) rfl
  ·exact mO 6 18
 intro _ a2 _ (S2 : Sta w 59 [(6, (yja))] [(5, Is (.slice none 0 0)), (7, iV e0), (0, Mv n Bm Kb), (1, (QV m ts K))] _ _ _)
 refine wq [.val (Mv n Bm Kb), .val (QV m ts K), .val (yp8 w e0), .val (yp8 w e0), .val (Is (.slice none 0 0)), .val zR, .val (iV e0), .new (yja), .val (Is (.slice none 0 0)), .put (.inr 7) (yja), .val (iV e0)] [.inr 0, .inl 7] [.inl 8, .inl 10, .inr 0, .inr 1] S2 ?_ ?_
 ·repeat' refine And.intro ?_ ?_
  ·trivial
  ·exact mS 2 0
  ·exact mS 3 1
  ·exact ch2 wA (qO 0 20 rfl) (qO 1 21 rfl) (ydd (yak _) (yak _) (yak _)) (fun w u v h1 h2 => hr w u v h1 h2)
  ·exact mO 2 22
  ·exact e30 wA (oO 3 19)
  ·exact e31 wA (oO 3 19)
  ·exact e32 wA (oO 3 19)
  ·exact yat rfl wA rfl rfl (fun ρ w => ybd ρ _ w)
  ·exact mO 4 23
  ·exact ybj 7 rfl wA rfl (by kernel_rfl) rfl (oO 5 24) (yaf yah ybr ybr) rfl
  ·exact mO 6 25
 intro _ a3 _ (S3 : Sta w 59 [(6, (yja)), (9, (yja))] [(8, Is (.slice none 0 0)), (10, iV e0), (5, Is (.slice none 0 0)), (7, iV e0)] _ _ _)
 refine wp_seq ?_
 refine wq [.val (iV e0), .val (iV e0), kF, kF, .val (Is (.slice none 0 0)), .val (iV (0 : Nat)), .val (Is (.slice none 0 0)), .val (iV (0 : Nat)), kF, kF, kF, .val zR, .val zR, kT, kF, kF] [] [.inl 15, .inr 0, .inr 2] S3 ?_ ?_
 ·repeat' refine And.intro ?_ ?_
  ·trivial
  ·exact mS 3 7
  ·exact mS 1 10
  ·exact ybm wA (oO 0 26) (oO 1 27) (h := rfl)
  ·exact mO 2 28
  ·exact mW (wI 3 29) (oS 2 5)
  ·exact yal rfl (wI 3 29) rfl (oO 4 30) is_len Tryz.underlying23 rfl
  ·exact mW (wI 3 29) (oS 0 8)
  ·exact yal rfl (wI 3 29) rfl (oO 6 32) is_len Tryz.underlying23 rfl
  ·exact ybm (wI 3 29) (oO 5 31) (oO 7 33) (h := rfl)
  ·exact pF wA (oO 3 29) (oO 8 34)
  ·exact mO 9 35
  ·exact lod 0 (wI 10 36) (yau yah ybr)
  ·exact lod 1 (wI 10 36) (yau yah ybr)
  ·exact ch2 (wI 10 36) ((qO 11 37 rfl).imp z_nmx) ((qO 12 38 rfl).imp z_nmx) (yak _) (fun w u v h h' => yoh w u v _ _ _ _ h h')
  ·exact yie (wI 10 36) (oO 13 39)
  ·exact pF wA (oO 10 36) (oO 14 40)
 intro _ a4 _ (S4 : Sta w 59 [] [(41, bF), (8, Is (.slice none 0 0)), (5, Is (.slice none 0 0))] _ _ _)
 refine wp_cond_false (S4.bool 0 41 rfl) (wp_skip (thenN (wp_seq ?_)))
 refine wq [.val (iV 0)] [] [.inl 0, .inr 1, .inr 2] S4 ?_ ?_
 ·apply jj1
  ·exact mC
 intro B5 a5 _ (S5 : Sta w 59 [] [(11, iV 0), (8, Is (.slice none 0 0)), (5, Is (.slice none 0 0))] _ _ _)
 refine wp_block ?_
 refine yan (fun (k0 : Nat) a W => (k0 ≤ 0) ∧ ∃ Bq, Sta w 59 [] [(11, iV (k0 : Nat)), (5, Is (.slice none 0 0))] Bq a W) (fun (k0 : Nat) => 0 - k0) ?_ 0 ⟨Nat.zero_le _, B5, S5.sub [] [0, 2]⟩
 rintro k0 a6 _ ⟨hcond, _, S6⟩
 ·skip
  refine wp_seq ?_
  refine wq [.val (iV (k0 : Nat)), .val (Is (.slice none 0 0)), .val (iV (0 : Nat)), kF] [] [.inl 3, .inr 0, .inr 1] S6 ?_ ?_
  ·apply jj4
   ·exact mS 0 11
   ·exact mS 1 5
   ·exact yal rfl wA rfl (oO 1 43) is_len Tryz.underlying23 rfl
   ·exact yaz wA (oO 0 42) (oO 2 44)
  intro _ a7 _ (S7 : Sta w 59 [] [(45, bF), (11, iV (k0 : Nat)), (5, Is (.slice none 0 0))] _ _ _)
  refine wp_cond_false (S7.bool 0 45 rfl) (wp_exit (thenX (thenX (inBlkE (thenN ?_)))))
  refine wq [kT, kT] [] [.inl 1, .inr 1, .inr 2] S7 ?_ ?_
  ·apply jj2
   ·exact yi3 rfl wA rfl  (yak _) rfl (fun args w => by go_simp) (fun w => ypi w)
   ·exact mO 0 58
  intro _ a8 _ (S8 : Sta w 59 [] [(4, bT), (11, iV (k0 : Nat)), (5, Is (.slice none 0 0))] _ _ _)
  refine wp_ret ?_
  exact ybe S8 rfl (yay S8 0 4 rfl)
abbrev ycf (w : World) (n : Nat) (X : List Int) (d : Nat) : Pr := (LF 4 n (X.map (fun x => QQ x d))) w.heap.size
abbrev yp7 (w : World) (n : Nat) (X : List Int) (d : Nat) (Q : Nat) (P : Int) : Pr := (THREE (LF 4 n (X.map (fun x => QQ x d))) (QQ P Q) (IS (.int .i64 0))) w.heap.size
abbrev yna (w : World) (Q : Nat) (P : Int) : Rk := .box 28 ((QQ P Q) w.heap.size)
theorem gc_w (w : World) (u v : Value) (n m Kb K : Nat) (Bm : List (List Int)) (ts : List (Int × Int)) (h : Hs w (Mv n Bm Kb) u) (hv : Hs w (QV m ts K) v) (hn : n ≤ 1048576) (hm : m ≤ 1048576) (X : List Int) (d Q : Nat) (P : Int) (lX : X.length = n) (hc : CoG n m Kb K Bm ts (CoP n X d P Q)) (hr : RcG n m Kb K Bm ts (CoP n X d P Q)) :
  Calls Tryz.prog 3 #[u, v] w (Gives (IS (.bool true)) w) := by
 refine yam (sl := [(0, (Mv n Bm Kb)), (1, (QV m ts K))]) Tryz.func3 rfl Tryz.ntmps3 (by simp) (yab rfl (h) (yab rfl (hv) yaq)) ?_
 intro a0 S0
 refine wq [kF] [] [.inr 0, .inr 1] S0 ?_ ?_
 ·apply jj1
  ·exact mC
 intro _ a1 _ (S1 : Sta w 59 [] [(0, Mv n Bm Kb), (1, (QV m ts K))] _ _ _)
 refine wq [.val (Mv n Bm Kb), .val (QV m ts K), .val (yp7 w n X d Q P), .val (yp7 w n X d Q P), .val (ycf w n X d), .val ((QQ P Q) w.heap.size), .val (iV 0), .new (.box 28 zR), .val (ycf w n X d), .put (.inr 7) (yna w Q P), .val (iV 0)] [.inl 7] [.inl 8, .inl 10, .inr 0, .inr 1] S1 ?_ ?_
 ·repeat' refine And.intro ?_ ?_
  ·trivial
  ·exact mS 0 0
  ·exact mS 1 1
  ·exact ch2 wA (qO 0 13 rfl) (qO 1 14 rfl) (ydd yph (ybh _ _) (yak _)) (fun w u v h1 h2 => hc w u v h1 h2)
  ·exact mO 2 15
  ·exact e30 wA (oO 3 12)
  ·exact e31 wA (oO 3 12)
  ·exact e32 wA (oO 3 12)
  ·exact yat rfl wA rfl rfl (fun ρ w => ybd ρ _ w)
  ·exact mO 4 16
  ·exact ybj 7 rfl wA rfl (by kernel_rfl) rfl (oO 5 17) (yaf yah ybr ya6) rfl
  ·exact mO 6 18
 intro _ a2 _ (S2 : Sta w 59 [(6, (yna w Q P))] [(5, (ycf w n X d)), (7, iV 0), (0, Mv n Bm Kb), (1, (QV m ts K))] _ _ _)
 refine wq [.val (Mv n Bm Kb), .val (QV m ts K), .val (yp7 w n X d Q P), .val (yp7 w n X d Q P), .val (ycf w n X d), .val ((QQ P Q) w.heap.size), .val (iV 0), .new (.box 28 zR), .val (ycf w n X d), .put (.inr 7) (yna w Q P), .val (iV 0)] [.inr 0, .inl 7] [.inl 8, .inl 10, .inr 0, .inr 1] S2 ?_ ?_
 ·repeat' refine And.intro ?_ ?_
  ·trivial
  ·exact mS 2 0
  ·exact mS 3 1
  ·exact ch2 wA (qO 0 20 rfl) (qO 1 21 rfl) (ydd yph (ybh _ _) (yak _)) (fun w u v h1 h2 => hr w u v h1 h2)
  ·exact mO 2 22
  ·exact e30 wA (oO 3 19)
  ·exact e31 wA (oO 3 19)
  ·exact e32 wA (oO 3 19)
  ·exact yat rfl wA rfl rfl (fun ρ w => ybd ρ _ w)
  ·exact mO 4 23
  ·exact ybj 7 rfl wA rfl (by kernel_rfl) rfl (oO 5 24) (yaf yah ybr ya6) rfl
  ·exact mO 6 25
 intro _ a3 _ (S3 : Sta w 59 [(6, (yna w Q P)), (9, (yna w Q P))] [(8, (ycf w n X d)), (10, iV 0), (5, (ycf w n X d)), (7, iV 0)] _ _ _)
 refine wp_seq ?_
 refine wq [.val (iV 0), .val (iV 0), kF, kF, .val (ycf w n X d), .val (iV (n : Nat)), .val (ycf w n X d), .val (iV (n : Nat)), kF, kF, kF, .val ((QQ P Q) w.heap.size), .val ((QQ P Q) w.heap.size), kT, kF, kF] [] [.inl 15, .inr 0, .inr 2] S3 ?_ ?_
 ·repeat' refine And.intro ?_ ?_
  ·trivial
  ·exact mS 3 7
  ·exact mS 1 10
  ·exact ybm wA (oO 0 26) (oO 1 27) (h := rfl)
  ·exact mO 2 28
  ·exact mW (wI 3 29) (oS 2 5)
  ·exact yal rfl (wI 3 29) rfl (oO 4 30) yj5 Tryz.underlying23 rfl
  ·exact mW (wI 3 29) (oS 0 8)
  ·exact yal rfl (wI 3 29) rfl (oO 6 32) yj5 Tryz.underlying23 rfl
  ·exact ybm (wI 3 29) (oO 5 31) (oO 7 33) (h := rfl)
  ·exact pF wA (oO 3 29) (oO 8 34)
  ·exact mO 9 35
  ·exact lod 0 (wI 10 36) (yau yah ya6)
  ·exact lod 1 (wI 10 36) (yau yah ya6)
  ·exact ch2 (wI 10 36) ((qO 11 37 rfl).imp (fun v w h => yqp v w h)) ((qO 12 38 rfl).imp (fun v w h => yqp v w h)) (yak _) (fun w u v h h' => yoh w u v _ _ _ _ h h')
  ·exact yie (wI 10 36) (oO 13 39)
  ·exact pF wA (oO 10 36) (oO 14 40)
 intro _ a4 _ (S4 : Sta w 59 [] [(41, bF), (8, (ycf w n X d)), (5, (ycf w n X d))] _ _ _)
 refine wp_cond_false (S4.bool 0 41 rfl) (wp_skip (thenN (wp_seq ?_)))
 refine wq [.val (iV 0)] [] [.inl 0, .inr 1, .inr 2] S4 ?_ ?_
 ·apply jj1
  ·exact mC
 intro B5 a5 _ (S5 : Sta w 59 [] [(11, iV 0), (8, (ycf w n X d)), (5, (ycf w n X d))] _ _ _)
 refine wp_block ?_
 refine yan (fun (k0 : Nat) a W => (k0 ≤ n) ∧ ∃ Bq, Sta w 59 [] [(11, iV (k0 : Nat)), (8, (ycf w n X d)), (5, (ycf w n X d))] Bq a W) (fun (k0 : Nat) => n - k0) ?_ 0 ⟨Nat.zero_le _, B5, S5.sub [] [0, 1, 2]⟩
 rintro k0 a6 _ ⟨hcond, _, S6⟩
 by_cases hlt : k0 < n
 ·skip
  refine wp_seq ?_
  refine wq [.val (iV (k0 : Nat)), .val (ycf w n X d), .val (iV (n : Nat)), kT] [] [.inl 3, .inr 0, .inr 1, .inr 2] S6 ?_ ?_
  ·apply jj4
   ·exact mS 0 11
   ·exact mS 2 5
   ·exact yal rfl wA rfl (oO 1 43) yj5 Tryz.underlying23 rfl
   ·exact yar wA (oO 0 42) (oO 2 44)
  intro B7 a7 W7 (S7 : Sta w 59 [] [(45, bT), (11, iV (k0 : Nat)), (8, (ycf w n X d)), (5, (ycf w n X d))] _ _ _)
  refine wp_cond_true (S7.bool 0 45 rfl) (wp_skip (thenN (wp_seq (wp_block ?_))))
  refine wq [.val (ycf w n X d), .val (iV (k0 : Nat)), .val (AtE 4 ((QQ (X.getD k0 0) d) w.heap.size)), .val ((QQ (X.getD k0 0) d) w.heap.size), .val (ycf w n X d), .val (iV (k0 : Nat)), .val (AtE 4 ((QQ (X.getD k0 0) d) w.heap.size)), .val ((QQ (X.getD k0 0) d) w.heap.size), kT, kF] [] [.inl 9, .inr 1, .inr 2, .inr 3] S7 ?_ ?_
  ·repeat' refine And.intro ?_ ?_
   ·trivial
   ·exact mS 3 5
   ·exact mS 1 11
   ·exact yae rfl wA rfl ybs ((oO 0 48).imp yg8) (oO 1 49) (yas (· w.heap.size) (yas (fun x => QQ x d) (gD (l := X) (d := 0) (by omega)))) rfl
   ·exact yag rfl wA rfl ybz (by decide) (ya5 (by decide) ya6) (oO 2 50) rfl
   ·exact mS 2 8
   ·exact mS 1 11
   ·exact yae rfl wA rfl ybs ((oO 4 52).imp yg8) (oO 5 53) (yas (· w.heap.size) (yas (fun x => QQ x d) (gD (l := X) (d := 0) (by omega)))) rfl
   ·exact yag rfl wA rfl ybz (by decide) (ya5 (by decide) ya6) (oO 6 54) rfl
   ·exact ch2 wA ((qO 3 51 rfl).imp (fun v w h => yqp v w h)) ((qO 7 55 rfl).imp (fun v w h => yqp v w h)) (yak _) (fun w u v h h' => yoh w u v _ _ _ _ h h')
   ·exact yie wA (oO 8 56)
  intro B8 a8 W8 (S8 : Sta w 59 [] [(57, bF), (11, iV (k0 : Nat)), (8, (ycf w n X d)), (5, (ycf w n X d))] _ _ _)
  refine wp_cond_false (S8.bool 0 57 rfl) (wp_skip (inBlkN (thenN ?_)))
  refine wr [.val (iV (k0 : Nat)), .val (iV (k0 + 1 : Nat)), .val (iV (k0 + 1 : Nat))] [] [.inl 2, .inr 2, .inr 3] S8 ?_ ?_
  ·apply jj3
   ·exact mS 1 11
   ·exact ya3 wA (oO 0 46) (yaa _)
   ·exact mO 1 47
  intro B9 a9 _ (S9 : Sta w 59 [] [(11, iV (k0 + 1 : Nat)), (8, (ycf w n X d)), (5, (ycf w n X d))] _ _ _)
  refine thenN ?_
  exact ⟨k0 + 1, ⟨by omega, B9, S9.sub [] [0, 1, 2]⟩, by omega⟩
 ·skip
  refine wp_seq ?_
  refine wq [.val (iV (k0 : Nat)), .val (ycf w n X d), .val (iV (n : Nat)), kF] [] [.inl 3, .inr 0, .inr 1, .inr 2] S6 ?_ ?_
  ·apply jj4
   ·exact mS 0 11
   ·exact mS 2 5
   ·exact yal rfl wA rfl (oO 1 43) yj5 Tryz.underlying23 rfl
   ·exact yaz wA (oO 0 42) (oO 2 44)
  intro B7 a7 W7 (S7 : Sta w 59 [] [(45, bF), (11, iV (k0 : Nat)), (8, (ycf w n X d)), (5, (ycf w n X d))] _ _ _)
  refine wp_cond_false (S7.bool 0 45 rfl) (wp_exit (thenX (thenX (inBlkE (thenN ?_)))))
  refine wq [kT, kT] [] [.inl 1, .inr 1, .inr 2, .inr 3] S7 ?_ ?_
  ·apply jj2
   ·exact yi3 rfl wA rfl  (yak _) rfl (fun args w => by go_simp) (fun w => ypi w)
   ·exact mO 0 58
  intro B8 a8 W8 (S8 : Sta w 59 [] [(4, bT), (11, iV (k0 : Nat)), (8, (ycf w n X d)), (5, (ycf w n X d))] _ _ _)
  refine wp_ret ?_
  exact ybe S8 rfl (yay S8 0 4 rfl)
theorem yjt (w : World) (b : Option Addr) (n d : Nat) (rs : List Rw) (a1 : Option Addr) (m c1 : Nat) (rq : List Ra) (z0 : Ms w b n d rs) (s1 : Qs w a1 m c1 rq) (y0 : d ≤ 1048576) (yy0 : ∀ (i : Nat) (r : Rw), rs[i]? = some r → r.c ≤ 1048576 ∧ ∀ (j : Nat) (e : El), r.es[j]? = some e → e.c ≤ 1048576) (t0 : (rs.map (fun r => (r.es.map (fun e => e.c + 1)).sum)).sum ≤ 1048576) (t1 : (rq.map (fun r => r.x.c + r.y.c + 1)).sum ≤ 1048576) :
  Calls Tryz.prog 3 #[.slice b n d, .slice a1 m c1] w fun e w' => e = .returned (.bool true) ∧ Below w.heap.size w w' := by
 obtain ⟨hm, hq, hS, hT⟩ := co_tot s1 t1
 have q2 := z0.cap
 have q3 := z0.len
 obtain ⟨e1, _, e3⟩ := ms_n z0 (k := 1048576) yy0
 have hb : Hs w (Mv n (zz (rs.map Rw.es)) 1048576) (.slice b n d) := fun w' ev => mx_mv e1 _ w' (ms_hs z0 w' ev)
 have hml : Ml (zz (rs.map Rw.es)) 1048576 := fun i zs hz => by
  obtain ⟨es, he, rfl⟩ := yba hz
  rw [List.length_map]
  exact e3 i es he
 have hdl : Mdl (zz (rs.map Rw.es)) 1048576 := fun i zs hz => by
  obtain ⟨r, hr⟩ := mv_row hb.now hz
  exact yjq hr
 have hv := qs_hs s1 (k := 1048576) hq
 have key : Calls Tryz.prog 3 #[.slice b n d, .slice a1 m c1] w (Gives (IS (.bool true)) w) := by
  rcases co_all (Kb := 1048576) (K := 1048576) (show (zz (rs.map Rw.es)).length = n by simp [zz, z0.len]) (show (qz rq).length = m by simp [qz, s1.len]) (by omega) hm (Nat.le_refl _) (Nat.le_refl _) (by omega) hml hdl hS hT with ⟨e0, _, hc, hr⟩ | ⟨_, _, _, x, _, _, _, _, _, _, hc, hr⟩
  ·exact gc_e w _ _ n m _ _ _ _ hb hv (by omega) hm e0 hc hr
  ·exact gc_w w _ _ n m _ _ _ _ hb hv (by omega) hm _ _ _ _ (by simp) hc hr
 refine key.mono ?_
 rintro e w' ⟨v, rfl, hb, hv⟩
 obtain rfl : v = _ := hv
 exact ⟨rfl, hb⟩
end Go.Proofs.YtdiagoaakadniaaGreat
