import Derived.Test.YtbkobojhkhiohaaGreatJaD
set_option linter.all false
namespace Go.Proofs.YtbkobojhkhiohaaGreat
open Go.ChangeShapes Go.WideShapes Go.ChangeAt Go.RowKit Nt
set_option maxRecDepth 20000
set_option maxHeartbeats 16000000
theorem yp4 {H : Type} {enc : TypeId × Value → H} {W : World} {v : Value} {y : DataW H × List MemPlace} {fuel : Nat}
  (hf : DataW.trod enc Tryz.prog W 0 (fun _ => true) true fuel 23 [v] = some y) :
  ∃ a n c rs, v = .slice a n c ∧ Ms W a n c rs ∧ ReadsM y.1 c rs := by
 rcases Go.Deep.open_slice1 Tryz.underlying23 (by kernel_rfl) hf with ⟨hcs, hx⟩ | ⟨x, l, c', m, k, V, D, Pl, hcs, _, hl, hm, hmm, hx, hall⟩
 ·simp only [List.cons.injEq, and_true] at hcs
  subst hcs
  exact ⟨_, _, _, [], rfl, ⟨rfl, ze5 _, zfq _, fun _ => rfl, fun i e h => by simp at h⟩, Or.inl ⟨by rw [hx], rfl⟩⟩
 ·simp only [List.cons.injEq, and_true] at hcs
  subst hcs
  simp only [if_true] at hmm
  subst hmm
  have each : ∀ i, ∃ r : Rw, i < m → W.cell? (x.add i) = some (.slice r.p r.n r.c) ∧ Ls W r.p r.n r.c r.es ∧ ReadsL (D i) r.c r.es := by
   intro i
   by_cases hi : i < m
   ·obtain ⟨h1, h2⟩ := hall i hi
    obtain ⟨a', n', c'', es', e1, hs, hr⟩ := yi8 h2
    exact ⟨⟨a', n', c'', es'⟩, fun _ => ⟨by rw [h1, e1], hs, hr⟩⟩
   ·exact ⟨default, fun h => absurd h hi⟩
  obtain ⟨E, hch'⟩ : ∃ E : Nat → Rw, ∀ i, i < m → W.cell? (x.add i) = some (.slice (E i).p (E i).n (E i).c) ∧ Ls W (E i).p (E i).n (E i).c (E i).es ∧ ReadsL (D i) (E i).c (E i).es := ⟨fun i => Classical.choose (each i), fun i => zg0 (each i)⟩
  refine ⟨_, _, _, (List.range l).map E, rfl, ⟨by simp, hl, hm, (fun e => by cases e), ?_⟩, Or.inr ⟨_, _, by rw [hx], by simp; omega, ?_⟩⟩
  ·intro i e he
   obtain ⟨j, hj, rfl⟩ := ya3 he
   have hi : i < l := by simpa using (zfa.1 hj).1
   rw [zf0 hi] at hj
   cases hj
   obtain ⟨h1, h2, _⟩ := hch' i (by omega)
   have hs := yfm (hch' 0 (by omega)).1
   obtain ⟨b, o, sp⟩ := x
   simp [Addr.add] at hs
   subst hs
   exact ⟨b, o, rfl, by rw [← h1, yb8], h2⟩
  ·intro i e he
   obtain ⟨j, hj, rfl⟩ := ya3 he
   have hi : i < l := by simpa using (zfa.1 hj).1
   rw [zf0 hi] at hj
   cases hj
   obtain ⟨_, _, h3⟩ := hch' i (by omega)
   exact ⟨D i, by rw [zfg, zf0 hi]; rfl, h3⟩
theorem yxo {H : Type} {enc : TypeId × Value → H} {W : World} {v : Value} {d : DataW H} {p : List MemPlace} {base : Nat}
  (hval : Value.okWide Tryz.prog W .any base 25 v) (h : DataW.Trod enc Tryz.prog W 0 (fun _ => true) true 25 v d p) :
  ∃ a n c es b m e rs d1 d2, v = .agg #[.slice a n c, .slice b m e] ∧ Ls W a n c es ∧ Ms W b m e rs ∧ d = .agg [d1, d2] ∧ ReadsL d1 c es ∧ ReadsM d2 e rs := by
 obtain ⟨cs, rfl, hsz⟩ := okWide_struct Tryz.underlying25 hval
 obtain ⟨w0, w1, rfl⟩ := Go.Joins.array2 (hsz.trans (show Tryz.prog.cellsOf 25 = 2 by kernel_rfl))
 obtain ⟨fuel, hf⟩ := h
 obtain ⟨y0, y1, k, hx, _, h0, h1⟩ := trod_struct2 Tryz.underlying25 hf
 have c0 : Tryz.prog.cellsOf 22 = 1 := by kernel_rfl
 have c1 : Tryz.prog.cellsOf 23 = 1 := by kernel_rfl
 simp only [c0, c1, Value.cells, zh7, zio, ziy, zip] at h0 h1
 obtain ⟨a, n, c, es, rfl, s1, r1⟩ := yi8 h0
 obtain ⟨b, m, e, rs, rfl, s2, r2⟩ := yp4 h1
 simp only [Prod.mk.injEq] at hx
 exact ⟨a, n, c, es, b, m, e, rs, y0.1, y1.1, rfl, s1, s2, hx.1, r1, r2⟩
structure Ra where
 x : El
 y : El
instance : Inhabited Ra := ⟨⟨default, default⟩⟩
structure Qs (w : World) (p : Option Addr) (n c : Nat) (rs : List Ra) : Prop where
 len : rs.length = n
 cap : n ≤ c
 max : c ≤ maxLen
 nil : p = none → c = 0
 lie : ∀ i r, rs[i]? = some r → ∃ b o, p = some ⟨b, o, none⟩ ∧ (w.cell? ⟨b, o + 4 * i, none⟩ = some (.bool r.x.s) ∧ w.cell? ⟨b, o + 4 * i + 1, none⟩ = some (.slice r.x.p r.x.n r.x.c) ∧ w.cell? ⟨b, o + 4 * i + 2, none⟩ = some (.bool r.y.s) ∧ w.cell? ⟨b, o + 4 * i + 3, none⟩ = some (.slice r.y.p r.y.n r.y.c)) ∧ Sl w r.x.p r.x.n r.x.c r.x.xs ∧ Sl w r.y.p r.y.n r.y.c r.y.xs
def ReadsQ {H : Type} (d : DataW H) (c : Nat) (rs : List Ra) : Prop :=
 (d = .nil ∧ c = 0) ∨ ∃ ds sp : List (DataW H), d = .slice ds sp ∧ c = ds.length + sp.length ∧ ∀ (i : Nat) (r : Ra), rs[i]? = some r → ∃ d1 d2, ds[i]? = some (DataW.agg [.agg [.lit (.bool r.x.s), d1], .agg [.lit (.bool r.y.s), d2]]) ∧ Reads d1 r.x.c ∧ Reads d2 r.y.c
theorem yuo {H : Type} {enc : TypeId × Value → H} {W : World} {v : Value} {d : DataW H} {p : List MemPlace} {base : Nat}
  (hval : Value.okWide Tryz.prog W .any base 26 v) (h : DataW.Trod enc Tryz.prog W 0 (fun _ => true) true 26 v d p) :
  ∃ a n c rs, v = .slice a n c ∧ Qs W a n c rs ∧ ReadsQ d c rs := by
 obtain ⟨a, n, c, rfl⟩ := okWide_slice Tryz.underlying26 hval
 obtain ⟨fuel, hf⟩ := h
 rcases Go.Deep.open_slice Tryz.underlying26 hf with ⟨hcs, hx⟩ | ⟨x, l, c', m, k, D, Pl, hcs, _, hl, hm, hmm, hx, hall⟩
 ·simp [Value.cells] at hcs
  obtain ⟨rfl, rfl, rfl⟩ := hcs
  simp only [Prod.mk.injEq] at hx
  exact ⟨_, _, _, [], rfl, ⟨rfl, ze5 _, zfq _, fun _ => rfl, fun i e h => by simp at h⟩, Or.inl ⟨hx.1, rfl⟩⟩
 ·simp [Value.cells] at hcs
  obtain ⟨rfl, rfl, rfl⟩ := hcs
  simp only [Prod.mk.injEq] at hx
  simp only [if_true] at hmm
  subst hmm
  have c4 : Tryz.prog.cellsOf 31 = 4 := by kernel_rfl
  have each : ∀ i, ∃ r : Ra, i < m → (W.cell? (x.add (i * 4)) = some (.bool r.x.s) ∧ W.cell? (x.add (i * 4 + 1)) = some (.slice r.x.p r.x.n r.x.c) ∧ W.cell? (x.add (i * 4 + 2)) = some (.bool r.y.s) ∧ W.cell? (x.add (i * 4 + 3)) = some (.slice r.y.p r.y.n r.y.c)) ∧ Sl W r.x.p r.x.n r.x.c r.x.xs ∧ Sl W r.y.p r.y.n r.y.c r.y.xs ∧ ∃ d1 d2, D i = .agg [.agg [.lit (.bool r.x.s), d1], .agg [.lit (.bool r.y.s), d2]] ∧ Reads d1 r.x.c ∧ Reads d2 r.y.c := by
   intro i
   by_cases hi : i < m
   ·obtain ⟨cs, h1, h2⟩ := hall i hi
    rw [c4] at h1
    obtain ⟨_, hlen, hcell⟩ := World.cells?_some h1
    match cs, hlen with
    | [v0, v1, v2, v3], _ =>
     obtain ⟨y0, y1, k', hxx, _, g0, g1⟩ := trod_struct2 Tryz.underlying31 h2
     have c0 : Tryz.prog.cellsOf 29 = 2 := by kernel_rfl
     simp only [c0, Value.cells, zh7, zio, ziy, zip] at g0 g1
     obtain ⟨s, a, n', c, xs, d1, rfl, rfl, s1, e1, r1⟩ := ygj g0
     obtain ⟨t, b, m', e, ys, d2, rfl, rfl, s2, e2, r2⟩ := ygj g1
     simp only [Prod.mk.injEq] at hxx
     have e0 := hcell 0 (by omega)
     have e1' := hcell 1 (by omega)
     have e2' := hcell 2 (by omega)
     have e3' := hcell 3 (by omega)
     rw [Go.Deep.add_add] at e0 e1' e2' e3'
     exact ⟨⟨⟨s, a, n', c, xs⟩, ⟨t, b, m', e, ys⟩⟩, fun _ => ⟨⟨by simpa using e0, by simpa using e1', by simpa using e2', by simpa using e3'⟩, s1, s2, d1, d2, by rw [hxx.1, e1, e2], r1, r2⟩⟩
   ·exact ⟨default, fun h => absurd h hi⟩
  obtain ⟨E, hch⟩ : ∃ E : Nat → Ra, ∀ i, i < m → (W.cell? (x.add (i * 4)) = some (.bool (E i).x.s) ∧ W.cell? (x.add (i * 4 + 1)) = some (.slice (E i).x.p (E i).x.n (E i).x.c) ∧ W.cell? (x.add (i * 4 + 2)) = some (.bool (E i).y.s) ∧ W.cell? (x.add (i * 4 + 3)) = some (.slice (E i).y.p (E i).y.n (E i).y.c)) ∧ Sl W (E i).x.p (E i).x.n (E i).x.c (E i).x.xs ∧ Sl W (E i).y.p (E i).y.n (E i).y.c (E i).y.xs ∧ ∃ d1 d2, D i = .agg [.agg [.lit (.bool (E i).x.s), d1], .agg [.lit (.bool (E i).y.s), d2]] ∧ Reads d1 (E i).x.c ∧ Reads d2 (E i).y.c := ⟨fun i => Classical.choose (each i), fun i => zg0 (each i)⟩
  refine ⟨_, _, _, (List.range n).map E, rfl, ⟨by simp, hl, hm, (fun e => by cases e), ?_⟩, Or.inr ⟨_, _, hx.1, by simp; omega, ?_⟩⟩
  ·intro i e he
   obtain ⟨j, hj, rfl⟩ := ya3 he
   have hi : i < n := by simpa using (zfa.1 hj).1
   rw [zf0 hi] at hj
   cases hj
   obtain ⟨⟨h1, h2, h3, h4⟩, h5, h6, _⟩ := hch i (by omega)
   have hs := yfm (hch 0 (by omega)).1.1
   obtain ⟨b, o, sp⟩ := x
   simp [Addr.add] at hs
   subst hs
   refine ⟨b, o, rfl, ⟨?_, ?_, ?_, ?_⟩, h5, h6⟩
   ·rw [← h1, yb8, ze8]
   ·rw [← h2, yb8, ze8 i 4]; rfl
   ·rw [← h3, yb8, ze8 i 4]; rfl
   ·rw [← h4, yb8, ze8 i 4]; rfl
  ·intro i e he
   obtain ⟨j, hj, rfl⟩ := ya3 he
   have hi : i < n := by simpa using (zfa.1 hj).1
   rw [zf0 hi] at hj
   cases hj
   obtain ⟨_, _, _, d1, d2, h3, h4, h5⟩ := hch i (by omega)
   exact ⟨d1, d2, by rw [zfg, zf0 hi, ← h3]; rfl, h4, h5⟩
theorem zek {w w' : World} {p : Option Addr} {n c : Nat} {rs : List Ra} (h : Qs w p n c rs) (e : Ev (fun _ => False) w w') : Qs w' p n c rs :=
 ⟨h.len, h.cap, h.max, h.nil, fun i x hx => by
  obtain ⟨b, o, e1, ⟨h1, h2, h3, h4⟩, h5, h6⟩ := h.lie i x hx
  exact ⟨b, o, e1, ⟨yeu h1 e, yeu h2 e, yeu h3 e, yeu h4 e⟩, yi3 h5 (fun _ _ _ _ h => h) e, yi3 h6 (fun _ _ _ _ h => h) e⟩⟩
abbrev qz (rs : List Ra) : List (Int × Int) := rs.map (fun r => (r.x.z, r.y.z))
end Go.Proofs.YtbkobojhkhiohaaGreat

namespace Go.Proofs.YtbkobojhkhiohaaGreat
open Go Go.RowKit Nt
set_option maxRecDepth 20000
set_option maxHeartbeats 16000000
theorem yzw : ∀ (rq : List Ra), (rq.map (fun r => r.x.c)).sum + (rq.map (fun r => r.y.c)).sum + rq.length = (rq.map (fun r => r.x.c + r.y.c + 1)).sum
 | [] => rfl
 | a :: r => by
  have := yzw r
  simp only [zgz, zhp, zgo]
  omega
theorem yg3 {α : Type} (f : α → Nat) : ∀ {l : List α} {i : Nat} {a : α}, l[i]? = some a → f a ≤ (l.map f).sum
 | b :: r, 0, a, h => by
  simp at h
  subst h
  simp only [zgz, zhp]
  omega
 | b :: r, i + 1, a, h => by
  have := yg3 f (l := r) (i := i) (a := a) (by simpa using h)
  simp only [zgz, zhp]
  omega
theorem ys4 {rq : List Ra} {k : Nat} {r : Ra} (h : rq[k]? = some r) : (qz rq).getD k (0, 0) = (r.x.z, r.y.z) := by
 rw [ze7, zfg, h]
 rfl
theorem yic {w : World} {p : Option Addr} {n c : Nat} {rq : List Ra} (s : Qs w p n c rq) : ∀ k, k ≤ n → dsum (qz rq) k ≤ 1 + ((rq.take k).map (fun r => r.y.c)).sum
 | 0, _ => ze5 _
 | k + 1, hk => by
  have ih := yic s k (by omega)
  have hr : rq[k]? = some (rq[k]'(by have := s.len; omega)) := zfb _
  generalize rq[k]'(by have := s.len; omega) = r at hr
  obtain ⟨b, o, _, _, _, h6⟩ := s.lie k r hr
  have h7 : (digs (r.y.z).natAbs).length ≤ r.y.n := ygv h6
  have h8 := h6.cap
  rw [dsum, ys4 hr, zg7, hr]
  simp only [Option.toList_some, List.map_append, zgz, zi0, List.sum_append, zhp, List.sum_nil]
  omega
theorem zao {w : World} {p : Option Addr} {n c : Nat} {rq : List Ra} (s : Qs w p n c rq) (t : (rq.map (fun r => r.x.c + r.y.c + 1)).sum ≤ 1048576) :
  n ≤ 1048576 ∧ (∀ (i : Nat) r, rq[i]? = some r → r.x.n ≤ 1048576 ∧ r.y.n ≤ 1048576) ∧ dsum (qz rq) n ≤ 1048577 ∧ ∀ k, k < n → (digs ((qz rq).getD k (0, 0)).1.natAbs).length + dsum (qz rq) n ≤ 1048577 := by
 have hl := s.len
 have h1 := yzw rq
 have h2 := yic s n (ze5 _)
 rw [ze9 (by omega)] at h2
 refine ⟨by omega, fun i r hr => ?_, by omega, fun k hk => ?_⟩
 ·obtain ⟨b, o, _, _, h5, h6⟩ := s.lie i r hr
  have h3 := yg3 (fun r : Ra => r.x.c) hr
  have h4 := yg3 (fun r : Ra => r.y.c) hr
  have := h5.cap
  have := h6.cap
  have h3' : r.x.c ≤ (rq.map (fun r => r.x.c)).sum := h3
  have h4' : r.y.c ≤ (rq.map (fun r => r.y.c)).sum := h4
  omega
 ·have hr : rq[k]? = some (rq[k]'(by omega)) := zfb _
  generalize rq[k]'(by omega) = r at hr
  obtain ⟨b, o, _, _, h5, h6⟩ := s.lie k r hr
  have h3 := yg3 (fun r : Ra => r.x.c) hr
  have h7 : (digs (r.x.z).natAbs).length ≤ r.x.n := ygv h5
  have := h5.cap
  rw [ys4 hr]
  show (digs (r.x.z).natAbs).length + _ ≤ _
  have h3' : r.x.c ≤ (rq.map (fun r => r.x.c)).sum := h3
  omega
theorem yvr (l : List Nat) (k : Nat) : (l.take k).sum ≤ l.sum := by
 have h : (l.take k ++ l.drop k).sum = l.sum := by rw [zgu]
 rw [List.sum_append] at h
 omega
theorem yud {D : List Int} {l : List Nat} (hl : l.length = D.length) (h : ∀ i, i < D.length → (digs (D.getD i 0).natAbs).length ≤ l.getD i 0) : ∀ k, wtD D k ≤ (l.take k).sum
 | 0 => zfq _
 | k + 1 => by
  have ih := yud hl h k
  simp only [wtD]
  rcases zge k D.length with hk | hk
  ·have h1 := h k hk
   rw [zg7, zfb (by omega)]
   rw [ze7, ze7, zfb (show k < l.length by omega)] at h1
   rw [List.sum_append]
   rw [ze7]
   simp only [Option.getD_some, Option.toList_some, zhp, List.sum_nil] at h1 ⊢
   omega
  ·rw [ze7, zf4 hk]
   have e0 : (digs ((none : Option Int).getD 0).natAbs).length = 0 := by show (digs (0 : Int).natAbs).length = 0; rw [show (0 : Int).natAbs = 0 from rfl, yc1]; rfl
   rw [e0, ze9 (by omega)]
   rw [ze9 (by omega)] at ih
   omega
theorem ysm {es : List El} {i : Nat} {e : El} (h : es[i]? = some e) : e.c + es.length ≤ (es.map (fun e => e.c + 1)).sum := by
 induction es generalizing i with
 | nil => simp at h
 | cons a r ih =>
  have hr : r.length ≤ (r.map (fun e => e.c + 1)).sum := by
   clear ih h
   induction r with
   | nil => simp
   | cons b s ih => simp only [zgz, zhp, zgo]; omega
  cases i with
  | zero => simp at h; subst h; simp only [zgz, zhp, zgo]; omega
  | succ i => have := ih (i := i) (by simpa using h); simp only [zgz, zhp, zgo]; omega
theorem yr9 (es : List El) : es.length ≤ (es.map (fun e => e.c + 1)).sum := by
 induction es with
 | nil => simp
 | cons b s ih => simp only [zgz, zhp, zgo]; omega
theorem zdu {w : World} {p : Option Addr} {n c : Nat} {es : List El} (s : Ls w p n c es) (i : Nat) (hi : i < es.length) : (digs ((es.map El.z).getD i 0).natAbs).length ≤ (es.map (fun e => e.c + 1)).getD i 0 := by
 obtain ⟨b, o, _, _, _, hs⟩ := s.lie i _ (zfb hi)
 have h1 := hs.dl
 have h2 := hs.cap
 rw [ze7, ze7, zfg, zfg, zfb hi]
 simp only [zif, Option.getD_some]
 rw [show (El.z es[i]).natAbs = val (es[i]).xs from sg_abs _ _]
 omega
end Go.Proofs.YtbkobojhkhiohaaGreat
