import Derived.Test.YtcbkmmkmffnfdaaSetA
import Derived.Lib.SmallJoins
import Derived.Deep.SlicePairs
/-
 Arguments that are numbers with a sign: what the row's reading gives.
-/
namespace Go.Proofs.Ytcbkmmkmffnfdaa
open Go.ChangeShapes Go.WideShapes Go.ChangeAt Go.RowKit Nt
set_option linter.unusedSimpArgs false
set_option linter.unusedVariables false

theorem arg_limbs {H : Type} {enc : TypeId × Value → H} {W : World} {v : Value} {y : DataW H × List MemPlace} {fuel : Nat}
  (hf : DataW.trod enc Try.prog W 0 (fun _ => true) true fuel 22 [v] = some y) :
  ∃ a n c xs, v = .slice a n c ∧ Sl W a n c xs ∧ Reads y.1 c := by
 rcases open_ints Try.underlying22 Try.underlying37 (by kernel_rfl) hf with ⟨hcs, hx⟩ | ⟨x, l, c', zs, hcs, _, hl, hm, hz, hx, hcell, hwz⟩
 ·simp at hcs
  subst hcs
  exact ⟨_, _, _, [], rfl, Sl.none W, Or.inl ⟨by rw [hx], rfl⟩⟩
 ·simp at hcs
  subst hcs
  simp only [if_true] at hz
  have hlz : (zs.take l).length = l := by simp; omega
  have hwf : ∀ z ∈ zs, 0 ≤ z ∧ z < 4294967296 := by
   intro z hzm
   have := hwz z hzm
   have := bounds_u32 this
   omega
  have hget : ∀ i, i < l → ((((zs.take l).map Int.toNat).getD i 0 : Nat) : Int) = zs.getD i 0 := by
   intro i hi
   have h1 : i < zs.length := by omega
   have h2 := hwf zs[i] (List.getElem_mem h1)
   simp [List.getD_eq_getElem?_getD, List.getElem?_take, hi, h1]
   omega
  refine ⟨_, _, _, (zs.take l).map Int.toNat, rfl, ⟨by simp; omega, hl, hm, (fun e => by cases e), ?_, ?_⟩, Or.inr ⟨_, _, by rw [hx], ?_⟩⟩
  ·intro y hy
   obtain ⟨z, hz1, rfl⟩ := List.mem_map.1 hy
   have := hwf z (List.mem_of_mem_take hz1)
   omega
  ·intro i hi
   have hi' : i < l := by simp at hi; omega
   have h0 := hcell 0 (by omega)
   have hs := spot_none h0
   obtain ⟨b, o, sp⟩ := x
   simp [Addr.add] at hs
   subst hs
   refine ⟨b, o, rfl, ?_⟩
   have := hcell i (by omega)
   rw [hget i hi', ← this]
   rw [addr_add]
  ·simp [lits]; omega

theorem arg_int {H : Type} {enc : TypeId × Value → H} {W : World} {v : Value} {d : DataW H} {p : List MemPlace} {base : Nat}
  (hval : Value.okWide Try.prog W .any base 24 v) (h : DataW.Trod enc Try.prog W 0 (fun _ => true) true 24 v d p) :
  ∃ s a n c xs d1, v = .agg #[.bool s, .slice a n c] ∧ Sl W a n c xs ∧ d = .agg [.lit (.bool s), d1] ∧ Reads d1 c := by
 obtain ⟨v0, v1, y0, y1, k, rfl, rfl, rfl, h0, h1⟩ := Go.Joins.open_agg2 Try.underlying24 (by kernel_rfl) (by kernel_rfl) hval h
 obtain ⟨b, hb, rfl⟩ := DataW.trod_bool Try.underlying4 h0
 simp at hb
 subst hb
 obtain ⟨a, n, c, xs, rfl, hs, hr⟩ := arg_limbs h1
 exact ⟨b, a, n, c, xs, y1.1, rfl, hs, rfl, hr⟩

theorem int_cap {H : Type} {ts : List TypeId} {ds : List (DataW H)} {j c : Nat} {d0 d1 : DataW H} (h : (DataW.weightsEach Try.prog ts ds).all (· ≤ reachBytes) = true) (ht : ts[j]? = some 24) (hd : ds[j]? = some (.agg [d0, d1])) (hr : Reads d1 c) : c ≤ 35184372087808 := by
 rcases hr with ⟨_, rfl⟩ | ⟨es, sp, rfl, rfl⟩
 ·omega
 ·have hu : Try.prog.underlying 24 = _ := Try.underlying24
  have hl : Try.prog.underlying 22 = _ := Try.underlying22
  have := List.all_eq_true.1 h _ (DataW.weights_mem_each ht hd ((es.length + sp.length) * Try.prog.bytesOf 37) (by simp [DataW.weights, DataW.weightsEach, hu, hl]))
  rw [show Try.prog.bytesOf 37 = 4 from by kernel_rfl] at this
  simp at this
  unfold reachBytes at this
  omega
end Go.Proofs.Ytcbkmmkmffnfdaa

/-
 Arguments that are lists of numbers with a sign: what the row's reading gives.
-/
namespace Go.Proofs.Ytcbkmmkmffnfdaa
open Go.ChangeShapes Go.WideShapes Go.ChangeAt Go.RowKit Nt
set_option linter.unusedSimpArgs false
set_option linter.unusedVariables false

/-- A number with a sign as it lies in a list: its sign, its slice, its limbs. -/
structure El where
 s : Bool
 p : Option Addr
 n : Nat
 c : Nat
 xs : List Nat
instance : Inhabited El := ⟨⟨false, none, 0, 0, []⟩⟩
/-- The list (p, n, c) of numbers holds es. -/
structure Ls (w : World) (p : Option Addr) (n c : Nat) (es : List El) : Prop where
 len : es.length = n
 cap : n ≤ c
 max : c ≤ maxLen
 nil : p = none → c = 0
 lie : ∀ i e, es[i]? = some e → ∃ b o, p = some ⟨b, o, none⟩ ∧ w.cell? ⟨b, o + 2 * i, none⟩ = some (.bool e.s) ∧ w.cell? ⟨b, o + 2 * i + 1, none⟩ = some (.slice e.p e.n e.c) ∧ Sl w e.p e.n e.c e.xs
theorem Ls.none (w : World) : Ls w none 0 0 [] := ⟨rfl, Nat.le_refl _, Nat.zero_le _, fun _ => rfl, fun i e h => by simp at h⟩
end Go.Proofs.Ytcbkmmkmffnfdaa

/-
 Arguments that are rationals: what the row's reading gives.
-/
namespace Go.Proofs.Ytcbkmmkmffnfdaa
open Go.ChangeShapes Go.WideShapes Go.ChangeAt Go.RowKit Nt
set_option linter.unusedSimpArgs false
set_option linter.unusedVariables false

theorem cells_int {H : Type} {enc : TypeId × Value → H} {W : World} {v0 v1 : Value} {y : DataW H × List MemPlace} {fuel : Nat}
  (hf : DataW.trod enc Try.prog W 0 (fun _ => true) true fuel 24 [v0, v1] = some y) :
  ∃ s a n c xs d1, v0 = .bool s ∧ v1 = .slice a n c ∧ Sl W a n c xs ∧ y.1 = .agg [.lit (.bool s), d1] ∧ Reads d1 c := by
 obtain ⟨y0, y1, k, hx, _, h0, h1⟩ := trod_struct2 Try.underlying24 hf
 have c0 : Try.prog.cellsOf 4 = 1 := by kernel_rfl
 have c1 : Try.prog.cellsOf 22 = 1 := by kernel_rfl
 simp only [c0, c1, List.drop_zero, List.take_succ_cons, List.take_zero, List.drop_succ_cons] at h0 h1
 obtain ⟨b, hb, rfl⟩ := DataW.trod_bool Try.underlying4 h0
 simp at hb
 subst hb
 obtain ⟨a, n, c, xs, rfl, hs, hr⟩ := arg_limbs h1
 exact ⟨b, a, n, c, xs, y1.1, rfl, rfl, hs, by rw [hx], hr⟩

theorem arg_rat {H : Type} {enc : TypeId × Value → H} {W : World} {v : Value} {d : DataW H} {p : List MemPlace} {base : Nat}
  (hval : Value.okWide Try.prog W .any base 26 v) (h : DataW.Trod enc Try.prog W 0 (fun _ => true) true 26 v d p) :
  ∃ s a n c xs t b m e ys d1 d2, v = .agg #[.bool s, .slice a n c, .bool t, .slice b m e] ∧ Sl W a n c xs ∧ Sl W b m e ys ∧ d = .agg [.agg [.lit (.bool s), d1], .agg [.lit (.bool t), d2]] ∧ Reads d1 c ∧ Reads d2 e := by
 obtain ⟨cs, rfl, hsz⟩ := okWide_struct Try.underlying26 hval
 obtain ⟨w0, w1, w2, w3, rfl⟩ := Go.Joins.array4 (hsz.trans (show Try.prog.cellsOf 26 = 4 by kernel_rfl))
 obtain ⟨fuel, hf⟩ := h
 obtain ⟨y0, y1, k, hx, _, h0, h1⟩ := trod_struct2 Try.underlying26 hf
 have c0 : Try.prog.cellsOf 24 = 2 := by kernel_rfl
 simp only [c0, Value.cells, List.drop_zero, List.take_succ_cons, List.take_zero, List.drop_succ_cons] at h0 h1
 obtain ⟨s, a, n, c, xs, d1, rfl, rfl, s1, e1, r1⟩ := cells_int h0
 obtain ⟨t, b, m, e, ys, d2, rfl, rfl, s2, e2, r2⟩ := cells_int h1
 simp only [Prod.mk.injEq] at hx
 exact ⟨s, a, n, c, xs, t, b, m, e, ys, d1, d2, rfl, s1, s2, by rw [hx.1, e1, e2], r1, r2⟩
end Go.Proofs.Ytcbkmmkmffnfdaa
