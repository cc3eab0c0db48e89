/-
  Arguments that are matrices of numbers with a sign: what the row's reading gives.
-/
import Derived.Test.YtdhjgekbocnnkaaDoorSetL
import Derived.Test.YtdhjgekbocnnkaaDoorVec
import Derived.Deep.Slices
namespace Go.Proofs.YtdhjgekbocnnkaaDoor
open Go.ChangeShapes Go.WideShapes Go.ChangeAt Go.RowKit Nt
set_option linter.unusedSimpArgs false
set_option linter.unusedVariables false
set_option maxRecDepth 20000

/-- A row as it lies in a matrix. -/
structure Rw where
  p : Option Addr
  n : Nat
  c : Nat
  es : List El
instance : Inhabited Rw := ⟨⟨none, 0, 0, []⟩⟩
/-- The matrix (p, n, c) holds the rows rs. -/
structure Ms (w : World) (p : Option Addr) (n c : Nat) (rs : List Rw) : Prop where
  len : rs.length = n
  cap : n ≤ c
  max : c ≤ maxLen
  nil : p = none → c = 0
  lie : ∀ i r, rs[i]? = some r → ∃ b o, p = some ⟨b, o, none⟩ ∧ w.cell? ⟨b, o + i, none⟩ = some (.slice r.p r.n r.c) ∧ Ls w r.p r.n r.c r.es
def ReadsM {H : Type} (d : DataW H) (c : Nat) (rs : List Rw) : Prop :=
  (d = .nil ∧ c = 0) ∨ ∃ ds sp : List (DataW H), d = .slice ds sp ∧ c = ds.length + sp.length ∧ ∀ (i : Nat) (r : Rw), rs[i]? = some r → ∃ d1, ds[i]? = some d1 ∧ ReadsL d1 r.c r.es
theorem arg_ints_f {H : Type} {enc : TypeId × Value → H} {W : World} {v : Value} {y : DataW H × List MemPlace} {fuel : Nat}
    (hf : DataW.trod enc Tryd.prog W 0 (fun _ => true) true fuel 23 [v] = some y) :
    ∃ a n c es, v = .slice a n c ∧ Ls W a n c es ∧ ReadsL y.1 c es := by
  rcases Go.Deep.open_slice_pairs Tryd.underlying23 Tryd.underlying36 (by kernel_rfl) rfl rfl (by kernel_rfl) (by kernel_rfl) hf with ⟨hcs, hx⟩ | ⟨x, l, c', m, k, V0, V1, D0, D1, P0, P1, hcs, _, hl, hm, hmm, hx, hall⟩
  · simp only [List.cons.injEq, and_true] at hcs
    subst hcs
    exact ⟨_, _, _, [], rfl, Ls.none W, Or.inl ⟨by rw [hx], rfl⟩⟩
  · simp only [List.cons.injEq, and_true] at hcs
    subst hcs
    simp only [if_true] at hmm
    subst hmm
    have each : ∀ i, ∃ e : El, i < m → W.cell? (x.add (i * 2)) = some (.bool e.s) ∧ W.cell? (x.add (i * 2 + 1)) = some (.slice e.p e.n e.c) ∧ Sl W e.p e.n e.c e.xs ∧ D0 i = .lit (.bool e.s) ∧ Reads (D1 i) e.c := by
      intro i
      by_cases hi : i < m
      · obtain ⟨h1, h2, h3, h4⟩ := hall i hi
        obtain ⟨b, hb, e0⟩ := DataW.trod_bool Tryd.underlying4 h3
        simp at hb
        obtain ⟨a', n', c'', xs', e1, hs, hr⟩ := arg_limbs h4
        refine ⟨⟨b, a', n', c'', xs'⟩, fun _ => ⟨by rw [h1, hb], by rw [h2, e1], hs, ?_, hr⟩⟩
        have := congrArg Prod.fst e0
        simpa using this
      · exact ⟨default, fun h => absurd h hi⟩
    obtain ⟨E, hch'⟩ : ∃ E : Nat → El, ∀ i, i < m → W.cell? (x.add (i * 2)) = some (.bool (E i).s) ∧ W.cell? (x.add (i * 2 + 1)) = some (.slice (E i).p (E i).n (E i).c) ∧ Sl W (E i).p (E i).n (E i).c (E i).xs ∧ D0 i = .lit (.bool (E i).s) ∧ Reads (D1 i) (E i).c := ⟨fun i => Classical.choose (each i), fun i => Classical.choose_spec (each i)⟩
    refine ⟨_, _, _, (List.range l).map E, rfl, ⟨by simp, hl, hm, (fun e => by cases e), ?_⟩, Or.inr ⟨_, _, by rw [hx], by simp; omega, ?_⟩⟩
    · intro i e he
      have hi : i < l := by
        have := (List.getElem?_eq_some_iff.1 he).1
        simpa using this
      have he' : e = E i := by
        rw [List.getElem?_map, List.getElem?_range hi] at he
        simpa using he.symm
      subst he'
      obtain ⟨h1, h2, h3, _, _⟩ := hch' i (by omega)
      have hs := spot_none (hch' 0 (by omega)).1
      obtain ⟨b, o, sp⟩ := x
      simp [Addr.add] at hs
      subst hs
      refine ⟨b, o, rfl, ?_, ?_, h3⟩
      · rw [← h1, addr_add, Nat.mul_comm]
      · rw [← h2, addr_add, Nat.mul_comm i 2]
        rfl
    · intro i e he
      have hi : i < l := by
        have := (List.getElem?_eq_some_iff.1 he).1
        simpa using this
      have he' : e = E i := by
        rw [List.getElem?_map, List.getElem?_range hi] at he
        simpa using he.symm
      subst he'
      obtain ⟨_, _, _, h4, h5⟩ := hch' i (by omega)
      exact ⟨D1 i, by rw [List.getElem?_map, List.getElem?_range hi, ← h4]; rfl, h5⟩
theorem arg_rows {H : Type} {enc : TypeId × Value → H} {W : World} {v : Value} {d : DataW H} {p : List MemPlace} {base : Nat}
    (hval : Value.okWide Tryd.prog W .any base 22 v) (h : DataW.Trod enc Tryd.prog W 0 (fun _ => true) true 22 v d p) :
    ∃ a n c rs, v = .slice a n c ∧ Ms W a n c rs ∧ ReadsM d c rs := by
  obtain ⟨a, n, c, rfl⟩ := okWide_slice Tryd.underlying22 hval
  obtain ⟨fuel, hf⟩ := h
  rcases Go.Deep.open_slice1 Tryd.underlying22 (by kernel_rfl) hf with ⟨hcs, hx⟩ | ⟨x, l, c', m, k, V, D, Pl, hcs, _, hl, hm, hmm, hx, hall⟩
  · simp [Value.cells] at hcs
    obtain ⟨rfl, rfl, rfl⟩ := hcs
    simp only [Prod.mk.injEq] at hx
    exact ⟨_, _, _, [], rfl, ⟨rfl, Nat.le_refl _, Nat.zero_le _, fun _ => rfl, fun i e h => by simp at h⟩, Or.inl ⟨hx.1, rfl⟩⟩
  · simp [Value.cells] at hcs
    obtain ⟨rfl, rfl, rfl⟩ := hcs
    simp only [Prod.mk.injEq] at hx
    simp only [if_true] at hmm
    subst hmm
    have each : ∀ i, ∃ r : Rw, i < m → W.cell? (x.add i) = some (.slice r.p r.n r.c) ∧ Ls W r.p r.n r.c r.es ∧ ReadsL (D i) r.c r.es := by
      intro i
      by_cases hi : i < m
      · obtain ⟨h1, h2⟩ := hall i hi
        obtain ⟨a', n', c'', es', e1, hs, hr⟩ := arg_ints_f h2
        exact ⟨⟨a', n', c'', es'⟩, fun _ => ⟨by rw [h1, e1], hs, hr⟩⟩
      · exact ⟨default, fun h => absurd h hi⟩
    obtain ⟨E, hch'⟩ : ∃ E : Nat → Rw, ∀ i, i < m → W.cell? (x.add i) = some (.slice (E i).p (E i).n (E i).c) ∧ Ls W (E i).p (E i).n (E i).c (E i).es ∧ ReadsL (D i) (E i).c (E i).es := ⟨fun i => Classical.choose (each i), fun i => Classical.choose_spec (each i)⟩
    refine ⟨_, _, _, (List.range n).map E, rfl, ⟨by simp, hl, hm, (fun e => by cases e), ?_⟩, Or.inr ⟨_, _, hx.1, by simp; omega, ?_⟩⟩
    · intro i e he
      obtain ⟨j, hj, rfl⟩ := map_get he
      have hi : i < n := by simpa using (List.getElem?_eq_some_iff.1 hj).1
      rw [List.getElem?_range hi] at hj
      cases hj
      obtain ⟨h1, h2, _⟩ := hch' i (by omega)
      have hs := spot_none (hch' 0 (by omega)).1
      obtain ⟨b, o, sp⟩ := x
      simp [Addr.add] at hs
      subst hs
      exact ⟨b, o, rfl, by rw [← h1, addr_add], h2⟩
    · intro i e he
      obtain ⟨j, hj, rfl⟩ := map_get he
      have hi : i < n := by simpa using (List.getElem?_eq_some_iff.1 hj).1
      rw [List.getElem?_range hi] at hj
      cases hj
      obtain ⟨_, _, h3⟩ := hch' i (by omega)
      exact ⟨D i, by rw [List.getElem?_map, List.getElem?_range hi]; rfl, h3⟩

/-! Matrices: words. -/
/-- As it came in. -/
abbrev Mx (n : Nat) (ess : List (List El)) : Pr := Ar 1 n (ess.map (fun es => Vx es.length es))
/-- By worth, each number of at most k limbs. -/
abbrev Mv (n : Nat) (zss : List (List Int)) (k : Nat) : Pr := Ar 1 n (zss.map (fun zs => Vv zs.length zs k))
/-- New, in one form. -/
abbrev MN (n : Nat) (zss : List (List Int)) : Nat → Pr := LF 1 n (zss.map (fun zs => VN zs.length zs))
/-- New, with the limbs of what came in. -/
abbrev MO (n : Nat) (ess : List (List El)) : Nat → Pr := LF 1 n (ess.map (fun es => VO es.length es))
/-- By signs and limbs. -/
abbrev Mg (n : Nat) (pss : List (List (Bool × List Nat))) : Pr := Ar 1 n (pss.map (fun ps => Vs ps.length ps))
theorem fresh_mn {n : Nat} {zss : List (List Int)} : Fresh (MN n zss) := fresh_lf (by decide) (fun i ψ h => by obtain ⟨z, _, rfl⟩ := map_get h; exact fresh_vn)
theorem fresh_mo {n : Nat} {ess : List (List El)} : Fresh (MO n ess) := fresh_lf (by decide) (fun i ψ h => by obtain ⟨e, _, rfl⟩ := map_get h; exact fresh_vo)
theorem ms_ar {w : World} {p : Option Addr} {n c : Nat} {rs : List Rw} (h : Ms w p n c rs) : Mx n (rs.map Rw.es) (.slice p n c) w :=
  ⟨p, c, rfl, by simp [h.len], ⟨h.cap, h.max, h.nil⟩, fun i φ hφ => by
    obtain ⟨e, he, rfl⟩ := map_get hφ
    obtain ⟨r, hr, rfl⟩ := map_get he
    obtain ⟨b, o, e1, h1, h3⟩ := h.lie i r hr
    refine ⟨b, o, .slice r.p r.n r.c, e1, fun j x hx => ?_, rfl, ?_⟩
    · match j, hx with
      | 0, hx => simp [Value.cells] at hx; subst hx; rw [Nat.one_mul]; exact h1
      | j + 1, hx => simp [Value.cells] at hx
    · have := ls_ar h3
      rw [h3.len]
      exact this⟩
theorem ms_ev {w w' : World} {p : Option Addr} {n c : Nat} {rs : List Rw} (h : Ms w p n c rs) (e : Ev (fun _ => False) w w') : Ms w' p n c rs :=
  ⟨h.len, h.cap, h.max, h.nil, fun i x hx => by
    obtain ⟨b, o, e1, h1, h2⟩ := h.lie i x hx
    exact ⟨b, o, e1, cell_ev h1 e, ls_ev h2 e⟩⟩
theorem ms_hs {w : World} {p : Option Addr} {n c : Nat} {rs : List Rw} (h : Ms w p n c rs) : Hs w (Mx n (rs.map Rw.es)) (.slice p n c) := fun w' e => ms_ar (ms_ev h e)
/-- No number of the matrix has more limbs; no row more numbers. -/
def Me (ess : List (List El)) (f : El → Nat) (k : Nat) : Prop := ∀ (i : Nat) es, ess[i]? = some es → ∀ (j : Nat) e, es[j]? = some e → f e ≤ k
def Ml {α : Type} (ess : List (List α)) (k : Nat) : Prop := ∀ (i : Nat) es, ess[i]? = some es → es.length ≤ k
abbrev zz (ess : List (List El)) : List (List Int) := ess.map (fun es => es.map El.z)
theorem mx_mv {n k : Nat} {ess : List (List El)} (h : Me ess El.n k) : ∀ v w, Mx n ess v w → Mv n (zz ess) k v w :=
  ar_imp (by simp) (fun i φ φ' h1 h2 v w hφ => by
    obtain ⟨e, he, rfl⟩ := map_get h1
    obtain ⟨z, hz, rfl⟩ := map_get h2
    rw [map_get' (fun es : List El => es.map El.z) he] at hz
    cases hz
    rw [List.length_map]
    exact vx_vv (h i e he) v w hφ)
theorem mo_mv {n k lo : Nat} {ess : List (List El)} (h : Me ess El.n k) : ∀ v w, MO n ess lo v w → Mv n (zz ess) k v w :=
  lf_to (by simp) (fun i ψ φ h1 h2 v w hφ => by
    obtain ⟨e, he, rfl⟩ := map_get h1
    obtain ⟨z, hz, rfl⟩ := map_get h2
    rw [map_get' (fun es : List El => es.map El.z) he] at hz
    cases hz
    rw [List.length_map]
    exact vo_vv (h i e he) v w hφ)
def Mdl (zss : List (List Int)) (k : Nat) : Prop := ∀ (i : Nat) zs, zss[i]? = some zs → Dl zs k
theorem mn_mv {n k lo : Nat} {zss : List (List Int)} (h : Mdl zss k) : ∀ v w, MN n zss lo v w → Mv n zss k v w :=
  lf_to (by simp) (fun i ψ φ h1 h2 v w hφ => by
    obtain ⟨e, he, rfl⟩ := map_get h1
    obtain ⟨z, hz, rfl⟩ := map_get h2
    rw [he] at hz
    cases hz
    exact vn_vv (h i e he) v w hφ)
theorem mx_mg {n : Nat} {ess : List (List El)} : ∀ v w, Mx n ess v w → Mg n (ess.map (fun es => es.map El.sx)) v w :=
  ar_imp (by simp) (fun i φ φ' h1 h2 v w hφ => by
    obtain ⟨e, he, rfl⟩ := map_get h1
    obtain ⟨z, hz, rfl⟩ := map_get h2
    rw [map_get' (fun es : List El => es.map El.sx) he] at hz
    cases hz
    rw [List.length_map]
    exact vx_vs v w hφ)
theorem mo_mg {n lo : Nat} {ess : List (List El)} : ∀ v w, MO n ess lo v w → Mg n (ess.map (fun es => es.map El.sx)) v w :=
  lf_to (by simp) (fun i ψ φ h1 h2 v w hφ => by
    obtain ⟨e, he, rfl⟩ := map_get h1
    obtain ⟨z, hz, rfl⟩ := map_get h2
    rw [map_get' (fun es : List El => es.map El.sx) he] at hz
    cases hz
    rw [List.length_map]
    exact vo_vs v w hφ)
theorem mn_mg {n lo : Nat} {zss : List (List Int)} : ∀ v w, MN n zss lo v w → Mg n (zss.map (fun zs => zs.map zsx)) v w :=
  lf_to (by simp) (fun i ψ φ h1 h2 v w hφ => by
    obtain ⟨e, he, rfl⟩ := map_get h1
    obtain ⟨z, hz, rfl⟩ := map_get h2
    rw [map_get' (fun zs : List Int => zs.map zsx) he] at hz
    cases hz
    rw [List.length_map]
    exact vn_vs v w hφ)
theorem nil_mn {lo : Nat} : ∀ v w, Is (.slice none 0 0) v w → MN 0 [] lo v w := fun v w e => by rw [show v = _ from e]; exact lf_nil w
theorem nil_mn' : ∀ lo v w, IS (.slice none 0 0) lo v w → MN 0 [] lo v w := fun lo v w e => nil_mn v w e
theorem mv_len {n k : Nat} {zss : List (List Int)} {u : Value} {w : World} (h : Mv n zss k u w) : zss.length = n := by
  obtain ⟨p, c, _, hl, _⟩ := h
  simpa using hl
theorem mv_row {n k : Nat} {zss : List (List Int)} {u : Value} {w : World} (h : Mv n zss k u w) {i : Nat} {zs : List Int} (hz : zss[i]? = some zs) : ∃ r, Vv zs.length zs k r w := by
  obtain ⟨p, c, _, _, _, ha⟩ := h
  obtain ⟨b, o, x, _, _, _, hx⟩ := ha i _ (map_get' (fun zs : List Int => Vv zs.length zs k) hz)
  exact ⟨x, hx⟩
/-! What the bounds of the arguments give. -/
theorem ms_n {w : World} {p : Option Addr} {n c k : Nat} {rs : List Rw} (h : Ms w p n c rs) (hC : ∀ (i : Nat) r, rs[i]? = some r → r.c ≤ k ∧ ∀ (j : Nat) e, r.es[j]? = some e → e.c ≤ k) : Me (rs.map Rw.es) El.n k ∧ Me (rs.map Rw.es) El.c k ∧ Ml (rs.map Rw.es) k := by
  refine ⟨fun i es he j e hj => ?_, fun i es he j e hj => ?_, fun i es he => ?_⟩
  · obtain ⟨r, hr, rfl⟩ := map_get he
    obtain ⟨b, o, _, _, L⟩ := h.lie i r hr
    obtain ⟨b, o, _, _, _, hs⟩ := L.lie j e hj
    have := hs.cap
    have := (hC i r hr).2 j e hj
    omega
  · obtain ⟨r, hr, rfl⟩ := map_get he
    exact (hC i r hr).2 j e hj
  · obtain ⟨r, hr, rfl⟩ := map_get he
    obtain ⟨b, o, _, _, L⟩ := h.lie i r hr
    have := L.cap
    have := (hC i r hr).1
    rw [L.len]
    omega
end Go.Proofs.YtdhjgekbocnnkaaDoor
