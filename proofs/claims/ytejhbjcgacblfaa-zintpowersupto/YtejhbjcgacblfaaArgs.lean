/-
  Arguments that are slices of limbs: what the row's reading gives.
-/
import Derived.Test.YtejhbjcgacblfaaRows
import Derived.Test.YtejhbjcgacblfaaSetA
import Derived.SizedLaws
namespace Go.Proofs.Ytejhbjcgacblfaa
open Go.ChangeShapes Go.WideShapes Go.ChangeAt Go.RowKit Nt
set_option linter.unusedSimpArgs false
set_option linter.unusedVariables false

theorem spot_none {w : World} {x : Addr} {v : Value} (h : w.cell? x = some v) : x.spot = none := by
  unfold World.cell? at h
  split at h
  · split at h
    · cases h
    · rename_i hs; simpa using hs
  · cases h

/-- How a slice is read: nil, or its elements and its spare room. -/
def Reads {H : Type} (d : DataW H) (c : Nat) : Prop := (d = .nil ∧ c = 0) ∨ ∃ es sp : List (DataW H), d = .slice es sp ∧ c = es.length + sp.length

set_option maxRecDepth 100000 in
theorem arg_slice {H : Type} {enc : TypeId × Value → H} {W : World} {v : Value} {d : DataW H} {p : List MemPlace} {base : Nat}
    (hval : Value.okWide Try.prog W .any base 22 v) (h : DataW.Trod enc Try.prog W 0 (fun _ => true) true 22 v d p) :
    ∃ a n c xs, v = .slice a n c ∧ Sl W a n c xs ∧ Reads d c := by
  obtain ⟨a, n, c, rfl⟩ := okWide_slice Try.underlying22 hval
  obtain ⟨fuel, hf⟩ := h
  rcases open_ints Try.underlying22 Try.underlying44 (by kernel_rfl) hf with ⟨hcs, hx⟩ | ⟨x, l, c', zs, hcs, _, hl, hm, hz, hx, hcell, hwz⟩
  · simp [Value.cells] at hcs
    obtain ⟨rfl, rfl, rfl⟩ := hcs
    simp only [Prod.mk.injEq] at hx
    exact ⟨_, _, _, [], rfl, Sl.none W, Or.inl ⟨hx.1, rfl⟩⟩
  · simp [Value.cells] at hcs
    obtain ⟨rfl, rfl, rfl⟩ := hcs
    simp only [Prod.mk.injEq] at hx
    simp only [if_true] at hz
    have hlz : (zs.take n).length = n := by simp; omega
    have hwf : ∀ z ∈ zs, 0 ≤ z ∧ z < 4294967296 := by
      intro z hzm
      have := hwz z hzm
      have := bounds_u32 this
      omega
    have hget : ∀ i, i < n → ((((zs.take n).map Int.toNat).getD i 0 : Nat) : Int) = zs.getD i 0 := by
      intro i hi
      have h1 : i < zs.length := by omega
      have h2 := hwf zs[i] (List.getElem_mem h1)
      simp [List.getD_eq_getElem?_getD, List.getElem?_take, hi, h1]
      omega
    refine ⟨_, _, _, (zs.take n).map Int.toNat, rfl, ⟨by simp; omega, hl, hm, (fun e => by cases e), ?_, ?_⟩, Or.inr ⟨_, _, hx.1, ?_⟩⟩
    · intro y hy
      obtain ⟨z, hz1, rfl⟩ := List.mem_map.1 hy
      have := hwf z (List.mem_of_mem_take hz1)
      omega
    · intro i hi
      have hi' : i < n := by simp at hi; omega
      have h0 := hcell 0 (by omega)
      have hs := spot_none h0
      obtain ⟨b, o, sp⟩ := x
      simp [Addr.add] at hs
      subst hs
      refine ⟨b, o, rfl, ?_⟩
      have := hcell i (by omega)
      rw [hget i hi', ← this]
      rw [addr_add]
    · simp [lits]; omega

theorem reads_cap {H : Type} {ts : List TypeId} {ds : List (DataW H)} {j c : Nat} {d : DataW H} (h : (DataW.weightsEach Try.prog ts ds).all (· ≤ reachBytes) = true) (ht : ts[j]? = some 22) (hd : ds[j]? = some d) (hr : Reads d c) : c ≤ 35184372087808 := by
  rcases hr with ⟨_, rfl⟩ | ⟨es, sp, rfl, rfl⟩
  · omega
  · have := sized_slice h ht hd Try.underlying22
    rw [show Try.prog.bytesOf 44 = 4 from by kernel_rfl] at this
    unfold reachBytes at this
    omega
end Go.Proofs.Ytejhbjcgacblfaa
