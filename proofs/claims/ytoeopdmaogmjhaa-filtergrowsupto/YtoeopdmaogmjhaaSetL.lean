import Derived.Test.YtoeopdmaogmjhaaSetA
import Derived.Lib.SmallJoins
import Derived.Deep.SlicePairs
/-
 Arguments that are numbers with a sign: what the row's reading gives.
-/
namespace Go.Proofs.Ytoeopdmaogmjhaa
open Go.ChangeShapes Go.WideShapes Go.ChangeAt Go.RowKit Nt
set_option linter.unusedSimpArgs false
set_option linter.unusedVariables false
set_option maxRecDepth 20000

theorem arg_limbs {H : Type} {enc : TypeId × Value → H} {W : World} {v : Value} {y : DataW H × List MemPlace} {fuel : Nat}
  (hf : DataW.trod enc Try.prog W 0 (fun _ => true) true fuel 27 [v] = some y) :
  ∃ a n c xs, v = .slice a n c ∧ Sl W a n c xs ∧ Reads y.1 c := by
 rcases open_ints Try.underlying27 Try.underlying69 (by kernel_rfl) hf with ⟨hcs, hx⟩ | ⟨x, l, c', zs, hcs, _, hl, hm, hz, hx, hcell, hwz⟩
 ·simp at hcs
  subst hcs
  exact ⟨_, _, _, [], rfl, Sl.none W, Or.inl ⟨by rw [hx], rfl⟩⟩
 ·simp at hcs
  subst hcs
  simp only [if_true] at hz
  have hlz : (zs.take l).length = l := by simp; omega
  have hwf : ∀ z ∈ zs, 0 ≤ z ∧ z < 4294967296 := by
   intro z hzm
   have := hwz z hzm
   have := bounds_u32 this
   omega
  have hget : ∀ i, i < l → ((((zs.take l).map Int.toNat).getD i 0 : Nat) : Int) = zs.getD i 0 := by
   intro i hi
   have h1 : i < zs.length := by omega
   have h2 := hwf zs[i] (List.getElem_mem h1)
   simp [List.getD_eq_getElem?_getD, List.getElem?_take, hi, h1]
   omega
  refine ⟨_, _, _, (zs.take l).map Int.toNat, rfl, ⟨by simp; omega, hl, hm, (fun e => by cases e), ?_, ?_⟩, Or.inr ⟨_, _, by rw [hx], ?_⟩⟩
  ·intro y hy
   obtain ⟨z, hz1, rfl⟩ := List.mem_map.1 hy
   have := hwf z (List.mem_of_mem_take hz1)
   omega
  ·intro i hi
   have hi' : i < l := by simp at hi; omega
   have h0 := hcell 0 (by omega)
   have hs := spot_none h0
   obtain ⟨b, o, sp⟩ := x
   simp [Addr.add] at hs
   subst hs
   refine ⟨b, o, rfl, ?_⟩
   have := hcell i (by omega)
   rw [hget i hi', ← this]
   rw [addr_add]
  ·simp [lits]; omega

theorem arg_int {H : Type} {enc : TypeId × Value → H} {W : World} {v : Value} {d : DataW H} {p : List MemPlace} {base : Nat}
  (hval : Value.okWide Try.prog W .any base 29 v) (h : DataW.Trod enc Try.prog W 0 (fun _ => true) true 29 v d p) :
  ∃ s a n c xs d1, v = .agg #[.bool s, .slice a n c] ∧ Sl W a n c xs ∧ d = .agg [.lit (.bool s), d1] ∧ Reads d1 c := by
 obtain ⟨v0, v1, y0, y1, k, rfl, rfl, rfl, h0, h1⟩ := Go.Joins.open_agg2 Try.underlying29 (by kernel_rfl) (by kernel_rfl) hval h
 obtain ⟨b, hb, rfl⟩ := DataW.trod_bool Try.underlying4 h0
 simp at hb
 subst hb
 obtain ⟨a, n, c, xs, rfl, hs, hr⟩ := arg_limbs h1
 exact ⟨b, a, n, c, xs, y1.1, rfl, hs, rfl, hr⟩

theorem int_cap {H : Type} {ts : List TypeId} {ds : List (DataW H)} {j c : Nat} {d0 d1 : DataW H} (h : (DataW.weightsEach Try.prog ts ds).all (· ≤ reachBytes) = true) (ht : ts[j]? = some 29) (hd : ds[j]? = some (.agg [d0, d1])) (hr : Reads d1 c) : c ≤ 35184372087808 := by
 rcases hr with ⟨_, rfl⟩ | ⟨es, sp, rfl, rfl⟩
 ·omega
 ·have hu : Try.prog.underlying 29 = _ := Try.underlying29
  have hl : Try.prog.underlying 27 = _ := Try.underlying27
  have := List.all_eq_true.1 h _ (DataW.weights_mem_each ht hd ((es.length + sp.length) * Try.prog.bytesOf 69) (by simp [DataW.weights, DataW.weightsEach, hu, hl]))
  rw [show Try.prog.bytesOf 69 = 4 from by kernel_rfl] at this
  simp at this
  unfold reachBytes at this
  omega
end Go.Proofs.Ytoeopdmaogmjhaa

/-
 Arguments that are lists of numbers with a sign: what the row's reading gives.
-/
namespace Go.Proofs.Ytoeopdmaogmjhaa
open Go.ChangeShapes Go.WideShapes Go.ChangeAt Go.RowKit Nt
set_option linter.unusedSimpArgs false
set_option linter.unusedVariables false
set_option maxRecDepth 20000

/-- A number with a sign as it lies in a list: its sign, its slice, its limbs. -/
structure El where
 s : Bool
 p : Option Addr
 n : Nat
 c : Nat
 xs : List Nat
instance : Inhabited El := ⟨⟨false, none, 0, 0, []⟩⟩
/-- The list (p, n, c) of numbers holds es. -/
structure Ls (w : World) (p : Option Addr) (n c : Nat) (es : List El) : Prop where
 len : es.length = n
 cap : n ≤ c
 max : c ≤ maxLen
 nil : p = none → c = 0
 lie : ∀ i e, es[i]? = some e → ∃ b o, p = some ⟨b, o, none⟩ ∧ w.cell? ⟨b, o + 2 * i, none⟩ = some (.bool e.s) ∧ w.cell? ⟨b, o + 2 * i + 1, none⟩ = some (.slice e.p e.n e.c) ∧ Sl w e.p e.n e.c e.xs
theorem Ls.none (w : World) : Ls w none 0 0 [] := ⟨rfl, Nat.le_refl _, Nat.zero_le _, fun _ => rfl, fun i e h => by simp at h⟩
/-- How a list is read: each number by its own slice. -/
def ReadsL {H : Type} (d : DataW H) (c : Nat) (es : List El) : Prop :=
 (d = .nil ∧ c = 0) ∨ ∃ ds sp : List (DataW H), d = .slice ds sp ∧ c = ds.length + sp.length ∧ ∀ (i : Nat) (e : El), es[i]? = some e → ∃ d1, ds[i]? = some (DataW.agg [.lit (.bool e.s), d1]) ∧ Reads d1 e.c
theorem arg_ints {H : Type} {enc : TypeId × Value → H} {W : World} {v : Value} {d : DataW H} {p : List MemPlace} {base : Nat}
  (hval : Value.okWide Try.prog W .any base 22 v) (h : DataW.Trod enc Try.prog W 0 (fun _ => true) true 22 v d p) :
  ∃ a n c es, v = .slice a n c ∧ Ls W a n c es ∧ ReadsL d c es := by
 obtain ⟨a, n, c, rfl⟩ := okWide_slice Try.underlying22 hval
 obtain ⟨fuel, hf⟩ := h
 rcases Go.Deep.open_slice_pairs Try.underlying22 Try.underlying29 (by kernel_rfl) rfl rfl (by kernel_rfl) (by kernel_rfl) hf with ⟨hcs, hx⟩ | ⟨x, l, c', m, k, V0, V1, D0, D1, P0, P1, hcs, _, hl, hm, hmm, hx, hall⟩
 ·simp [Value.cells] at hcs
  obtain ⟨rfl, rfl, rfl⟩ := hcs
  simp only [Prod.mk.injEq] at hx
  exact ⟨_, _, _, [], rfl, Ls.none W, Or.inl ⟨hx.1, rfl⟩⟩
 ·simp [Value.cells] at hcs
  obtain ⟨rfl, rfl, rfl⟩ := hcs
  simp only [Prod.mk.injEq] at hx
  simp only [if_true] at hmm
  subst hmm
  have each : ∀ i, ∃ e : El, i < m → W.cell? (x.add (i * 2)) = some (.bool e.s) ∧ W.cell? (x.add (i * 2 + 1)) = some (.slice e.p e.n e.c) ∧ Sl W e.p e.n e.c e.xs ∧ D0 i = .lit (.bool e.s) ∧ Reads (D1 i) e.c := by
   intro i
   by_cases hi : i < m
   ·obtain ⟨h1, h2, h3, h4⟩ := hall i hi
    obtain ⟨b, hb, e0⟩ := DataW.trod_bool Try.underlying4 h3
    simp at hb
    obtain ⟨a', n', c'', xs', e1, hs, hr⟩ := arg_limbs h4
    refine ⟨⟨b, a', n', c'', xs'⟩, fun _ => ⟨by rw [h1, hb], by rw [h2, e1], hs, ?_, hr⟩⟩
    have := congrArg Prod.fst e0
    simpa using this
   ·exact ⟨default, fun h => absurd h hi⟩
  have hch := fun i => Classical.choose_spec (each i)
  generalize hE : (fun i => Classical.choose (each i)) = E at hch
  have hch' : ∀ i, i < m → W.cell? (x.add (i * 2)) = some (.bool (E i).s) ∧ W.cell? (x.add (i * 2 + 1)) = some (.slice (E i).p (E i).n (E i).c) ∧ Sl W (E i).p (E i).n (E i).c (E i).xs ∧ D0 i = .lit (.bool (E i).s) ∧ Reads (D1 i) (E i).c := by
   subst hE
   exact hch
  refine ⟨_, _, _, (List.range n).map E, rfl, ⟨by simp, hl, hm, (fun e => by cases e), ?_⟩, Or.inr ⟨_, _, hx.1, by simp; omega, ?_⟩⟩
  ·intro i e he
   have hi : i < n := by
    have := (List.getElem?_eq_some_iff.1 he).1
    simpa using this
   have he' : e = E i := by
    rw [List.getElem?_map, List.getElem?_range hi] at he
    simpa using he.symm
   subst he'
   obtain ⟨h1, h2, h3, _, _⟩ := hch' i (by omega)
   have hs := spot_none (hch' 0 (by omega)).1
   obtain ⟨b, o, sp⟩ := x
   simp [Addr.add] at hs
   subst hs
   refine ⟨b, o, rfl, ?_, ?_, h3⟩
   ·rw [← h1, addr_add, Nat.mul_comm]
   ·rw [← h2, addr_add, Nat.mul_comm i 2]
    rfl
  ·intro i e he
   have hi : i < n := by
    have := (List.getElem?_eq_some_iff.1 he).1
    simpa using this
   have he' : e = E i := by
    rw [List.getElem?_map, List.getElem?_range hi] at he
    simpa using he.symm
   subst he'
   obtain ⟨_, _, _, h4, h5⟩ := hch' i (by omega)
   exact ⟨D1 i, by rw [List.getElem?_map, List.getElem?_range hi, ← h4]; rfl, h5⟩
end Go.Proofs.Ytoeopdmaogmjhaa

/-
 Arguments that are rationals: what the row's reading gives.
-/
namespace Go.Proofs.Ytoeopdmaogmjhaa
open Go.ChangeShapes Go.WideShapes Go.ChangeAt Go.RowKit Nt
set_option linter.unusedSimpArgs false
set_option linter.unusedVariables false
set_option maxRecDepth 20000

theorem cells_int {H : Type} {enc : TypeId × Value → H} {W : World} {v0 v1 : Value} {y : DataW H × List MemPlace} {fuel : Nat}
  (hf : DataW.trod enc Try.prog W 0 (fun _ => true) true fuel 29 [v0, v1] = some y) :
  ∃ s a n c xs d1, v0 = .bool s ∧ v1 = .slice a n c ∧ Sl W a n c xs ∧ y.1 = .agg [.lit (.bool s), d1] ∧ Reads d1 c := by
 obtain ⟨y0, y1, k, hx, _, h0, h1⟩ := trod_struct2 Try.underlying29 hf
 have c0 : Try.prog.cellsOf 4 = 1 := by kernel_rfl
 have c1 : Try.prog.cellsOf 27 = 1 := by kernel_rfl
 simp only [c0, c1, List.drop_zero, List.take_succ_cons, List.take_zero, List.drop_succ_cons] at h0 h1
 obtain ⟨b, hb, rfl⟩ := DataW.trod_bool Try.underlying4 h0
 simp at hb
 subst hb
 obtain ⟨a, n, c, xs, rfl, hs, hr⟩ := arg_limbs h1
 exact ⟨b, a, n, c, xs, y1.1, rfl, rfl, hs, by rw [hx], hr⟩

end Go.Proofs.Ytoeopdmaogmjhaa
