/-
  Arguments that are matrices of numbers with a sign: what the row's reading gives.
-/
import Derived.Test.YtkiholgfamfgeaaGreatSetL
import Derived.Test.YtkiholgfamfgeaaGreatVec
import Derived.Deep.Slices
namespace Go.Proofs.YtkiholgfamfgeaaGreat
open Go.ChangeShapes Go.WideShapes Go.ChangeAt Go.RowKit Nt
set_option linter.unusedSimpArgs false
set_option linter.unusedVariables false
set_option maxRecDepth 20000

/-- A row as it lies in a matrix. -/
structure Rw where
  p : Option Addr
  n : Nat
  c : Nat
  es : List El
instance : Inhabited Rw := ⟨⟨none, 0, 0, []⟩⟩
/-- The matrix (p, n, c) holds the rows rs. -/
structure Ms (w : World) (p : Option Addr) (n c : Nat) (rs : List Rw) : Prop where
  len : rs.length = n
  cap : n ≤ c
  max : c ≤ maxLen
  nil : p = none → c = 0
  lie : ∀ i r, rs[i]? = some r → ∃ b o, p = some ⟨b, o, none⟩ ∧ w.cell? ⟨b, o + i, none⟩ = some (.slice r.p r.n r.c) ∧ Ls w r.p r.n r.c r.es
def ReadsM {H : Type} (d : DataW H) (c : Nat) (rs : List Rw) : Prop :=
  (d = .nil ∧ c = 0) ∨ ∃ ds sp : List (DataW H), d = .slice ds sp ∧ c = ds.length + sp.length ∧ ∀ (i : Nat) (r : Rw), rs[i]? = some r → ∃ d1, ds[i]? = some d1 ∧ ReadsL d1 r.c r.es
theorem arg_ints_f {H : Type} {enc : TypeId × Value → H} {W : World} {v : Value} {y : DataW H × List MemPlace} {fuel : Nat}
    (hf : DataW.trod enc Tryz.prog W 0 (fun _ => true) true fuel 22 [v] = some y) :
    ∃ a n c es, v = .slice a n c ∧ Ls W a n c es ∧ ReadsL y.1 c es := by
  rcases Go.Deep.open_slice_pairs Tryz.underlying22 Tryz.underlying28 (by kernel_rfl) rfl rfl (by kernel_rfl) (by kernel_rfl) hf with ⟨hcs, hx⟩ | ⟨x, l, c', m, k, V0, V1, D0, D1, P0, P1, hcs, _, hl, hm, hmm, hx, hall⟩
  · simp only [List.cons.injEq, and_true] at hcs
    subst hcs
    exact ⟨_, _, _, [], rfl, Ls.none W, Or.inl ⟨by rw [hx], rfl⟩⟩
  · simp only [List.cons.injEq, and_true] at hcs
    subst hcs
    simp only [if_true] at hmm
    subst hmm
    have each : ∀ i, ∃ e : El, i < m → W.cell? (x.add (i * 2)) = some (.bool e.s) ∧ W.cell? (x.add (i * 2 + 1)) = some (.slice e.p e.n e.c) ∧ Sl W e.p e.n e.c e.xs ∧ D0 i = .lit (.bool e.s) ∧ Reads (D1 i) e.c := by
      intro i
      by_cases hi : i < m
      · obtain ⟨h1, h2, h3, h4⟩ := hall i hi
        obtain ⟨b, hb, e0⟩ := DataW.trod_bool Tryz.underlying4 h3
        simp at hb
        obtain ⟨a', n', c'', xs', e1, hs, hr⟩ := arg_limbs h4
        refine ⟨⟨b, a', n', c'', xs'⟩, fun _ => ⟨by rw [h1, hb], by rw [h2, e1], hs, ?_, hr⟩⟩
        have := congrArg Prod.fst e0
        simpa using this
      · exact ⟨default, fun h => absurd h hi⟩
    obtain ⟨E, hch'⟩ : ∃ E : Nat → El, ∀ i, i < m → W.cell? (x.add (i * 2)) = some (.bool (E i).s) ∧ W.cell? (x.add (i * 2 + 1)) = some (.slice (E i).p (E i).n (E i).c) ∧ Sl W (E i).p (E i).n (E i).c (E i).xs ∧ D0 i = .lit (.bool (E i).s) ∧ Reads (D1 i) (E i).c := ⟨fun i => Classical.choose (each i), fun i => Classical.choose_spec (each i)⟩
    refine ⟨_, _, _, (List.range l).map E, rfl, ⟨by simp, hl, hm, (fun e => by cases e), ?_⟩, Or.inr ⟨_, _, by rw [hx], by simp; omega, ?_⟩⟩
    · intro i e he
      have hi : i < l := by
        have := (List.getElem?_eq_some_iff.1 he).1
        simpa using this
      have he' : e = E i := by
        rw [List.getElem?_map, List.getElem?_range hi] at he
        simpa using he.symm
      subst he'
      obtain ⟨h1, h2, h3, _, _⟩ := hch' i (by omega)
      have hs := spot_none (hch' 0 (by omega)).1
      obtain ⟨b, o, sp⟩ := x
      simp [Addr.add] at hs
      subst hs
      refine ⟨b, o, rfl, ?_, ?_, h3⟩
      · rw [← h1, addr_add, Nat.mul_comm]
      · rw [← h2, addr_add, Nat.mul_comm i 2]
        rfl
    · intro i e he
      have hi : i < l := by
        have := (List.getElem?_eq_some_iff.1 he).1
        simpa using this
      have he' : e = E i := by
        rw [List.getElem?_map, List.getElem?_range hi] at he
        simpa using he.symm
      subst he'
      obtain ⟨_, _, _, h4, h5⟩ := hch' i (by omega)
      exact ⟨D1 i, by rw [List.getElem?_map, List.getElem?_range hi, ← h4]; rfl, h5⟩
/-! Matrices: words. -/
/-- As it came in. -/
abbrev Mx (n : Nat) (ess : List (List El)) : Pr := Ar 1 n (ess.map (fun es => Vx es.length es))
/-- By worth, each number of at most k limbs. -/
abbrev Mv (n : Nat) (zss : List (List Int)) (k : Nat) : Pr := Ar 1 n (zss.map (fun zs => Vv zs.length zs k))
/-- New, in one form. -/
abbrev MN (n : Nat) (zss : List (List Int)) : Nat → Pr := LF 1 n (zss.map (fun zs => VN zs.length zs))
theorem fresh_mn {n : Nat} {zss : List (List Int)} : Fresh (MN n zss) := fresh_lf (by decide) (fun i ψ h => by obtain ⟨z, _, rfl⟩ := map_get h; exact fresh_vn)
theorem ms_ar {w : World} {p : Option Addr} {n c : Nat} {rs : List Rw} (h : Ms w p n c rs) : Mx n (rs.map Rw.es) (.slice p n c) w :=
  ⟨p, c, rfl, by simp [h.len], ⟨h.cap, h.max, h.nil⟩, fun i φ hφ => by
    obtain ⟨e, he, rfl⟩ := map_get hφ
    obtain ⟨r, hr, rfl⟩ := map_get he
    obtain ⟨b, o, e1, h1, h3⟩ := h.lie i r hr
    refine ⟨b, o, .slice r.p r.n r.c, e1, fun j x hx => ?_, rfl, ?_⟩
    · match j, hx with
      | 0, hx => simp [Value.cells] at hx; subst hx; rw [Nat.one_mul]; exact h1
      | j + 1, hx => simp [Value.cells] at hx
    · have := ls_ar h3
      rw [h3.len]
      exact this⟩
theorem ms_ev {w w' : World} {p : Option Addr} {n c : Nat} {rs : List Rw} (h : Ms w p n c rs) (e : Ev (fun _ => False) w w') : Ms w' p n c rs :=
  ⟨h.len, h.cap, h.max, h.nil, fun i x hx => by
    obtain ⟨b, o, e1, h1, h2⟩ := h.lie i x hx
    exact ⟨b, o, e1, cell_ev h1 e, ls_ev h2 e⟩⟩
theorem ms_hs {w : World} {p : Option Addr} {n c : Nat} {rs : List Rw} (h : Ms w p n c rs) : Hs w (Mx n (rs.map Rw.es)) (.slice p n c) := fun w' e => ms_ar (ms_ev h e)
/-- No number of the matrix has more limbs; no row more numbers. -/
def Me (ess : List (List El)) (f : El → Nat) (k : Nat) : Prop := ∀ (i : Nat) es, ess[i]? = some es → ∀ (j : Nat) e, es[j]? = some e → f e ≤ k
def Ml {α : Type} (ess : List (List α)) (k : Nat) : Prop := ∀ (i : Nat) es, ess[i]? = some es → es.length ≤ k
abbrev zz (ess : List (List El)) : List (List Int) := ess.map (fun es => es.map El.z)
theorem mx_mv {n k : Nat} {ess : List (List El)} (h : Me ess El.n k) : ∀ v w, Mx n ess v w → Mv n (zz ess) k v w :=
  ar_imp (by simp) (fun i φ φ' h1 h2 v w hφ => by
    obtain ⟨e, he, rfl⟩ := map_get h1
    obtain ⟨z, hz, rfl⟩ := map_get h2
    rw [map_get' (fun es : List El => es.map El.z) he] at hz
    cases hz
    rw [List.length_map]
    exact vx_vv (h i e he) v w hφ)
def Mdl (zss : List (List Int)) (k : Nat) : Prop := ∀ (i : Nat) zs, zss[i]? = some zs → Dl zs k
theorem mn_mv {n k lo : Nat} {zss : List (List Int)} (h : Mdl zss k) : ∀ v w, MN n zss lo v w → Mv n zss k v w :=
  lf_to (by simp) (fun i ψ φ h1 h2 v w hφ => by
    obtain ⟨e, he, rfl⟩ := map_get h1
    obtain ⟨z, hz, rfl⟩ := map_get h2
    rw [he] at hz
    cases hz
    exact vn_vv (h i e he) v w hφ)
theorem mv_len {n k : Nat} {zss : List (List Int)} {u : Value} {w : World} (h : Mv n zss k u w) : zss.length = n := by
  obtain ⟨p, c, _, hl, _⟩ := h
  simpa using hl
/-! What the bounds of the arguments give. -/
theorem ms_n {w : World} {p : Option Addr} {n c k : Nat} {rs : List Rw} (h : Ms w p n c rs) (hC : ∀ (i : Nat) r, rs[i]? = some r → r.c ≤ k ∧ ∀ (j : Nat) e, r.es[j]? = some e → e.c ≤ k) : Me (rs.map Rw.es) El.n k ∧ Me (rs.map Rw.es) El.c k ∧ Ml (rs.map Rw.es) k := by
  refine ⟨fun i es he j e hj => ?_, fun i es he j e hj => ?_, fun i es he => ?_⟩
  · obtain ⟨r, hr, rfl⟩ := map_get he
    obtain ⟨b, o, _, _, L⟩ := h.lie i r hr
    obtain ⟨b, o, _, _, _, hs⟩ := L.lie j e hj
    have := hs.cap
    have := (hC i r hr).2 j e hj
    omega
  · obtain ⟨r, hr, rfl⟩ := map_get he
    exact (hC i r hr).2 j e hj
  · obtain ⟨r, hr, rfl⟩ := map_get he
    obtain ⟨b, o, _, _, L⟩ := h.lie i r hr
    have := L.cap
    have := (hC i r hr).1
    rw [L.len]
    omega
end Go.Proofs.YtkiholgfamfgeaaGreat
