import Derived.Test.YtdnindaohpdblaaGreatSetA
import Derived.Lib.SmallJoins
import Derived.Deep.SlicePairs
set_option linter.all false
namespace Go.Proofs.YtdnindaohpdblaaGreat
open Go.ChangeShapes Go.WideShapes Go.ChangeAt Go.RowKit Nt
set_option maxRecDepth 20000
set_option maxHeartbeats 16000000
theorem yqe {H : Type} {enc : TypeId × Value → H} {W : World} {v : Value} {y : DataW H × List MemPlace} {fuel : Nat}
  (hf : DataW.trod enc Tryz.prog W 0 (fun _ => true) true fuel 22 [v] = some y) :
  ∃ a n c xs, v = .slice a n c ∧ Sl W a n c xs ∧ Reads y.1 c := by
 rcases open_ints Tryz.underlying22 Tryz.underlying64 (by kernel_rfl) hf with ⟨hcs, hx⟩ | ⟨x, l, c', zs, hcs, _, hl, hm, hz, hx, hcell, hwz⟩
 ·simp at hcs
  subst hcs
  exact ⟨_, _, _, [], rfl, Sl.none W, Or.inl ⟨by rw [hx], rfl⟩⟩
 ·simp at hcs
  subst hcs
  simp only [if_true] at hz
  have hlz : (zs.take l).length = l := by simp; omega
  have hwf : ∀ z ∈ zs, 0 ≤ z ∧ z < 4294967296 := by
   intro z hzm
   have := hwz z hzm
   have := bounds_u32 this
   omega
  have hget : ∀ i, i < l → ((((zs.take l).map Int.toNat).getD i 0 : Nat) : Int) = zs.getD i 0 := by
   intro i hi
   have h1 : i < zs.length := by omega
   have h2 := hwf zs[i] (List.getElem_mem h1)
   simp [zdj, zfl, hi, h1]
   omega
  refine ⟨_, _, _, (zs.take l).map Int.toNat, rfl, ⟨by simp; omega, hl, hm, (fun e => by cases e), ?_, ?_⟩, Or.inr ⟨_, _, by rw [hx], ?_⟩⟩
  ·intro y hy
   obtain ⟨z, hz1, rfl⟩ := zgn.1 hy
   have := hwf z (zgt hz1)
   omega
  ·intro i hi
   have hi' : i < l := by simp at hi; omega
   have h0 := hcell 0 (by omega)
   have hs := ysr h0
   obtain ⟨b, o, sp⟩ := x
   simp [Addr.add] at hs
   subst hs
   refine ⟨b, o, rfl, ?_⟩
   have := hcell i (by omega)
   rw [hget i hi', ← this]
   rw [yed]
  ·simp [lits]; omega
structure El where
 s : Bool
 p : Option Addr
 n : Nat
 c : Nat
 xs : List Nat
instance : Inhabited El := ⟨⟨false, none, 0, 0, []⟩⟩
structure Ls (w : World) (p : Option Addr) (n c : Nat) (es : List El) : Prop where
 len : es.length = n
 cap : n ≤ c
 max : c ≤ maxLen
 nil : p = none → c = 0
 lie : ∀ i e, es[i]? = some e → ∃ b o, p = some ⟨b, o, none⟩ ∧ w.cell? ⟨b, o + 2 * i, none⟩ = some (.bool e.s) ∧ w.cell? ⟨b, o + 2 * i + 1, none⟩ = some (.slice e.p e.n e.c) ∧ Sl w e.p e.n e.c e.xs
theorem yk7 {H : Type} {enc : TypeId × Value → H} {W : World} {v0 v1 : Value} {y : DataW H × List MemPlace} {fuel : Nat}
  (hf : DataW.trod enc Tryz.prog W 0 (fun _ => true) true fuel 24 [v0, v1] = some y) :
  ∃ s a n c xs d1, v0 = .bool s ∧ v1 = .slice a n c ∧ Sl W a n c xs ∧ y.1 = .agg [.lit (.bool s), d1] ∧ Reads d1 c := by
 obtain ⟨y0, y1, k, hx, _, h0, h1⟩ := trod_struct2 Tryz.underlying24 hf
 have c0 : Tryz.prog.cellsOf 4 = 1 := by kernel_rfl
 have c1 : Tryz.prog.cellsOf 22 = 1 := by kernel_rfl
 simp only [c0, c1, zg3, List.take_succ_cons, List.take_zero, List.drop_succ_cons] at h0 h1
 obtain ⟨b, hb, rfl⟩ := DataW.trod_bool Tryz.underlying4 h0
 simp at hb
 subst hb
 obtain ⟨a, n, c, xs, rfl, hs, hr⟩ := yqe h1
 exact ⟨b, a, n, c, xs, y1.1, rfl, rfl, hs, by rw [hx], hr⟩
theorem yw5 {H : Type} {enc : TypeId × Value → H} {W : World} {v : Value} {d : DataW H} {p : List MemPlace} {base : Nat}
  (hval : Value.okWide Tryz.prog W .any base 26 v) (h : DataW.Trod enc Tryz.prog W 0 (fun _ => true) true 26 v d p) :
  ∃ s a n c xs t b m e ys d1 d2, v = .agg #[.bool s, .slice a n c, .bool t, .slice b m e] ∧ Sl W a n c xs ∧ Sl W b m e ys ∧ d = .agg [.agg [.lit (.bool s), d1], .agg [.lit (.bool t), d2]] ∧ Reads d1 c ∧ Reads d2 e := by
 obtain ⟨cs, rfl, hsz⟩ := okWide_struct Tryz.underlying26 hval
 obtain ⟨w0, w1, w2, w3, rfl⟩ := Go.Joins.array4 (hsz.trans (show Tryz.prog.cellsOf 26 = 4 by kernel_rfl))
 obtain ⟨fuel, hf⟩ := h
 obtain ⟨y0, y1, k, hx, _, h0, h1⟩ := trod_struct2 Tryz.underlying26 hf
 have c0 : Tryz.prog.cellsOf 24 = 2 := by kernel_rfl
 simp only [c0, Value.cells, zg3, List.take_succ_cons, List.take_zero, List.drop_succ_cons] at h0 h1
 obtain ⟨s, a, n, c, xs, d1, rfl, rfl, s1, e1, r1⟩ := yk7 h0
 obtain ⟨t, b, m, e, ys, d2, rfl, rfl, s2, e2, r2⟩ := yk7 h1
 simp only [Prod.mk.injEq] at hx
 exact ⟨s, a, n, c, xs, t, b, m, e, ys, d1, d2, rfl, s1, s2, by rw [hx.1, e1, e2], r1, r2⟩
end Go.Proofs.YtdnindaohpdblaaGreat
