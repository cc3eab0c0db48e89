import Derived.Test.YtdiagoaakadniaaGreatSetA
import Derived.Lib.SmallJoins
import Derived.Deep.SlicePairs
namespace Go.Proofs.YtdiagoaakadniaaGreat
open Go.ChangeShapes Go.WideShapes Go.ChangeAt Go.RowKit Nt
set_option linter.unusedSimpArgs false
set_option linter.unusedVariables false
set_option maxRecDepth 20000
set_option maxHeartbeats 16000000
theorem ymc {H : Type} {enc : TypeId × Value → H} {W : World} {v : Value} {y : DataW H × List MemPlace} {fuel : Nat}
  (hf : DataW.trod enc Tryz.prog W 0 (fun _ => true) true fuel 24 [v] = some y) :
  ∃ a n c xs, v = .slice a n c ∧ Sl W a n c xs ∧ Reads y.1 c := by
 rcases open_ints Tryz.underlying24 Tryz.underlying83 (by kernel_rfl) hf with ⟨hcs, hx⟩ | ⟨x, l, c', zs, hcs, _, hl, hm, hz, hx, hcell, hwz⟩
 ·simp at hcs
  subst hcs
  exact ⟨_, _, _, [], rfl, Sl.none W, Or.inl ⟨by rw [hx], rfl⟩⟩
 ·simp at hcs
  subst hcs
  simp only [if_true] at hz
  have hlz : (zs.take l).length = l := by simp; omega
  have hwf : ∀ z ∈ zs, 0 ≤ z ∧ z < 4294967296 := by
   intro z hzm
   have := hwz z hzm
   have := bounds_u32 this
   omega
  have hget : ∀ i, i < l → ((((zs.take l).map Int.toNat).getD i 0 : Nat) : Int) = zs.getD i 0 := by
   intro i hi
   have h1 : i < zs.length := by omega
   have h2 := hwf zs[i] (List.getElem_mem h1)
   simp [List.getD_eq_getElem?_getD, List.getElem?_take, hi, h1]
   omega
  refine ⟨_, _, _, (zs.take l).map Int.toNat, rfl, ⟨by simp; omega, hl, hm, (fun e => by cases e), ?_, ?_⟩, Or.inr ⟨_, _, by rw [hx], ?_⟩⟩
  ·intro y hy
   obtain ⟨z, hz1, rfl⟩ := List.mem_map.1 hy
   have := hwf z (List.mem_of_mem_take hz1)
   omega
  ·intro i hi
   have hi' : i < l := by simp at hi; omega
   have h0 := hcell 0 (by omega)
   have hs := yg0 h0
   obtain ⟨b, o, sp⟩ := x
   simp [Addr.add] at hs
   subst hs
   refine ⟨b, o, rfl, ?_⟩
   have := hcell i (by omega)
   rw [hget i hi', ← this]
   rw [yco]
  ·simp [lits]; omega
structure El where
 s : Bool
 p : Option Addr
 n : Nat
 c : Nat
 xs : List Nat
instance : Inhabited El := ⟨⟨false, none, 0, 0, []⟩⟩
structure Ls (w : World) (p : Option Addr) (n c : Nat) (es : List El) : Prop where
 len : es.length = n
 cap : n ≤ c
 max : c ≤ maxLen
 nil : p = none → c = 0
 lie : ∀ i e, es[i]? = some e → ∃ b o, p = some ⟨b, o, none⟩ ∧ w.cell? ⟨b, o + 2 * i, none⟩ = some (.bool e.s) ∧ w.cell? ⟨b, o + 2 * i + 1, none⟩ = some (.slice e.p e.n e.c) ∧ Sl w e.p e.n e.c e.xs
theorem Ls.none (w : World) : Ls w none 0 0 [] := ⟨rfl, Nat.le_refl _, Nat.zero_le _, fun _ => rfl, fun i e h => by simp at h⟩
def ReadsL {H : Type} (d : DataW H) (c : Nat) (es : List El) : Prop :=
 (d = .nil ∧ c = 0) ∨ ∃ ds sp : List (DataW H), d = .slice ds sp ∧ c = ds.length + sp.length ∧ ∀ (i : Nat) (e : El), es[i]? = some e → ∃ d1, ds[i]? = some (DataW.agg [.lit (.bool e.s), d1]) ∧ Reads d1 e.c
theorem ymg {H : Type} {enc : TypeId × Value → H} {W : World} {v0 v1 : Value} {y : DataW H × List MemPlace} {fuel : Nat}
  (hf : DataW.trod enc Tryz.prog W 0 (fun _ => true) true fuel 26 [v0, v1] = some y) :
  ∃ s a n c xs d1, v0 = .bool s ∧ v1 = .slice a n c ∧ Sl W a n c xs ∧ y.1 = .agg [.lit (.bool s), d1] ∧ Reads d1 c := by
 obtain ⟨y0, y1, k, hx, _, h0, h1⟩ := trod_struct2 Tryz.underlying26 hf
 have c0 : Tryz.prog.cellsOf 4 = 1 := by kernel_rfl
 have c1 : Tryz.prog.cellsOf 24 = 1 := by kernel_rfl
 simp only [c0, c1, List.drop_zero, List.take_succ_cons, List.take_zero, List.drop_succ_cons] at h0 h1
 obtain ⟨b, hb, rfl⟩ := DataW.trod_bool Tryz.underlying4 h0
 simp at hb
 subst hb
 obtain ⟨a, n, c, xs, rfl, hs, hr⟩ := ymc h1
 exact ⟨b, a, n, c, xs, y1.1, rfl, rfl, hs, by rw [hx], hr⟩
end Go.Proofs.YtdiagoaakadniaaGreat
