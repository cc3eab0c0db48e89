import Derived.Test.YtnhfpekpdephjaaGreatSetR
import Derived.Test.YtnhfpekpdephjaaGreatMConts
import Derived.Test.YtnhfpekpdephjaaGreatSetY
import Derived.Test.YtnhfpekpdephjaaGreatSetL
import Derived.Deep.Slices
/-
 Lists of numbers: as they came in, by worth, in new memory; lists that grow by one; how the machine reads lists of lists.
-/
namespace Go.Proofs.YtnhfpekpdephjaaGreat
open Go Go.RowKit Nt
set_option linter.unusedSimpArgs false
set_option linter.unusedVariables false
set_option maxRecDepth 20000

/-! Words. -/
def El.pr (e : El) : Pr := Zx e.s e.p e.n e.c e.xs
/-- A list of numbers worth zs, each of at most k limbs. -/
abbrev Vv (n : Nat) (zs : List Int) (k : Nat) : Pr := Ar 2 n (zs.map (fun z => Zv z k))
/-- A new list of numbers in one form. -/
abbrev VN (n : Nat) (zs : List Int) : Nat → Pr := LF 2 n (zs.map ZN)
theorem map_get {α β : Type} {f : α → β} {l : List α} {i : Nat} {y : β} (h : (l.map f)[i]? = some y) : ∃ x, l[i]? = some x ∧ y = f x := by
 rw [List.getElem?_map] at h
 cases hx : l[i]? with
 | none => simp [hx] at h
 | some x => simp [hx] at h; exact ⟨x, rfl, h.symm⟩
theorem fresh_vn {n : Nat} {zs : List Int} : Fresh (VN n zs) := fresh_lf (by decide) (fun i ψ h => by obtain ⟨z, _, rfl⟩ := map_get h; exact fresh_zn z)
theorem lf_len {sz n lo : Nat} {ψs : List (Nat → Pr)} : ∀ v w, LF sz n ψs lo v w → ∃ p c, v = .slice p n c := fun v w h => ar_len v w h.1
theorem vn_vv {n k lo : Nat} {zs : List Int} (h : ∀ (i : Nat) z, zs[i]? = some z → (digs z.natAbs).length ≤ k) : ∀ v w, VN n zs lo v w → Vv n zs k v w :=
 lf_to (by simp) (fun i ψ φ h1 h2 v w hφ => by
  obtain ⟨z, hz, rfl⟩ := map_get h1
  obtain ⟨z', hz', rfl⟩ := map_get h2
  rw [hz] at hz'
  cases hz'
  exact zn_zv (h i z hz) v w hφ)
/-! How long numbers are. -/
/-- No number of the list has more limbs. -/
def Dl (zs : List Int) (k : Nat) : Prop := ∀ (i : Nat) z, zs[i]? = some z → (digs z.natAbs).length ≤ k

/-! Lists of lists. -/
theorem idx_rows : Idx 22 1 := fun ρ o x y w b k i n c hi hx hy => by
 rw [Nat.one_mul]
 unfold execOp
 go_simp
theorem celv1 {u : Value} (h : Celv 1 u) : u.cells = #[u] ∧ u.oneCell' = true := by
 have h1 := h.of
 have h2 := h.siz
 have h3 := h.one
 have e : u.cells = #[u] := by
  apply Array.ext
  ·simp [h2]
  ·intro i hi hi'
   have : i = 0 := by omega
   subst this
   conv => rhs; rw [show (#[u] : Array Value)[0] = u from rfl, h1]
   simp [ofCells, h2]
 refine ⟨e, ?_⟩
 rw [e] at h3
 simpa using h3
theorem ldr_row1 : Ldr 27 1 := fun ρ o x w b k u hu hc hx => by
 obtain ⟨e, h1⟩ := celv1 hu
 have h2 : w.cell? ⟨b, k, none⟩ = some u := hc 0 u (by rw [e]; rfl)
 clear hc hu e
 unfold execOp
 go_simp
theorem cel_ar {sz n : Nat} {φs : List Pr} : Cel 1 (Ar sz n φs) := fun v w ⟨p, c, e, _⟩ => by rw [e]; exact celv_one rfl
theorem cel_vv {n k : Nat} {zs : List Int} : Cel 1 (Vv n zs k) := cel_ar
theorem cel_lf {sz n lo : Nat} {ψs : List (Nat → Pr)} : Cel 1 (LF sz n ψs lo) := fun v w h => cel_ar v w h.1
/-! A list of one. -/
def Sng (E sz : Nat) (φ : Pr) (lo : Nat) : Pr := fun v w => ∃ g u, v = .slice (some ⟨g, 0, none⟩) 1 1 ∧ lo ≤ g ∧ w.heap[g]? = some (.cells u.cells E (0, 0)) ∧ Celv sz u ∧ φ u w
def Bld (T E sz : Nat) : Prop := ∀ (ρ : Operand → Value) (o : Oper) (x : Operand) (w : World) (u : Value), Celv sz u → ρ x = u → (execOp ρ { o with op := .buildSlice T 1 #[(0, x)] }).run Tryz.prog w = .ok (.value (.slice (some ⟨w.heap.size, 0, none⟩) 1 1)) (w.alloc (.cells u.cells E))
theorem bld_int : Bld 27 33 2 := fun ρ o x w u hu hx => by
 have e := hu.of
 rw [ofCells, if_neg (by decide)] at e
 obtain ⟨l, hl⟩ : ∃ l, u.cells = ⟨l⟩ := ⟨u.cells.toList, by simp⟩
 have hs := hu.siz
 have ho := hu.one
 rw [hl] at e hs ho ⊢
 match l, hs with
 | [y, z], _ =>
  clear hu hl
  subst e
  simp at ho
  obtain ⟨h1, h2⟩ := ho
  unfold execOp
  go_simp
theorem owe_b1 {ops : Array Oper} {l : List Kd} {bx : Bxs} {sl : List (Tmp × Pr)} {i : Nat} {o : Oper} {Q : Exit → Act → World → Prop} {a0 : Act} {n0 : Nat} {w0 : World} {x : Operand} {T E sz : Nat} {φ : Pr} (ho : ops[i]? = some o) (hw : Wants ops l bx sl i o) (hop : o.op = .buildSlice T 1 #[(0, x)]) (hB : Bld T E sz) (hx : Opnd ops l bx sl i x φ) (hc : Cel sz φ) (hk : kdAt l i = .val (Sng E sz φ w0.heap.size)) : Owed Tryz.prog ops Q l bx sl a0 n0 w0 i :=
 owe_grow ho hw hk fun vs B a w c => by
  have hX := hx a0 n0 w0 vs B a w c
  have hcv := hc _ _ hX.now
  have hb : Below w.heap.size w (w.alloc (.cells (a.eval x).cells E)) := (Below.refl _ _).alloc (Nat.le_refl _) _
  refine ⟨.slice (some ⟨w.heap.size, 0, none⟩) 1 1, _, ?_, hb, fun w'' e'' => ?_⟩
  ·rw [← hB a.eval o x w _ hcv rfl]
   unfold execOp
   rw [hop]
  ·have ev : Ev B w w'' := ⟨e''.os.trans hb.os, e''.tape.trans hb.tape, e''.output.trans hb.output, Nat.le_trans hb.size e''.size, fun k hk hn => (e''.block k (Nat.lt_of_lt_of_le hk hb.size) hn).trans (hb.block k hk)⟩
   refine ⟨w.heap.size, _, rfl, c.lo, ?_, hcv, hX w'' ev⟩
   rw [e''.block w.heap.size (Array.getElem?_eq_some_iff.1 (heap_alloc_last w _)).1 (fun hB => by have := (c.bnd _ hB).2; omega)]
   exact heap_alloc_last _ _
end Go.Proofs.YtnhfpekpdephjaaGreat

/-
 The first elements of a list that is only read.
-/
namespace Go.Proofs.YtnhfpekpdephjaaGreat
open Go Go.RowKit Nt
set_option linter.unusedSimpArgs false
set_option linter.unusedVariables false
set_option maxRecDepth 20000

section
variable {ops : Array Oper} {l : List Kd} {bx : Bxs} {sl : List (Tmp × Pr)} {i : Nat} {o : Oper} {Q : Exit → Act → World → Prop} {a0 : Act} {n0 : Nat} {w0 : World}
end
end Go.Proofs.YtnhfpekpdephjaaGreat

/-
 Arguments that are matrices of numbers with a sign: what the row's reading gives.
-/
namespace Go.Proofs.YtnhfpekpdephjaaGreat
open Go.ChangeShapes Go.WideShapes Go.ChangeAt Go.RowKit Nt
set_option linter.unusedSimpArgs false
set_option linter.unusedVariables false
set_option maxRecDepth 20000

/-- A row as it lies in a matrix. -/
structure Rw where
 p : Option Addr
 n : Nat
 c : Nat
 es : List El
instance : Inhabited Rw := ⟨⟨none, 0, 0, []⟩⟩
/-- By worth, each number of at most k limbs. -/
abbrev Mv (n : Nat) (zss : List (List Int)) (k : Nat) : Pr := Ar 1 n (zss.map (fun zs => Vv zs.length zs k))
/-- New, in one form. -/
abbrev MN (n : Nat) (zss : List (List Int)) : Nat → Pr := LF 1 n (zss.map (fun zs => VN zs.length zs))
theorem fresh_mn {n : Nat} {zss : List (List Int)} : Fresh (MN n zss) := fresh_lf (by decide) (fun i ψ h => by obtain ⟨z, _, rfl⟩ := map_get h; exact fresh_vn)
def Mdl (zss : List (List Int)) (k : Nat) : Prop := ∀ (i : Nat) zs, zss[i]? = some zs → Dl zs k
theorem mn_mv {n k lo : Nat} {zss : List (List Int)} (h : Mdl zss k) : ∀ v w, MN n zss lo v w → Mv n zss k v w :=
 lf_to (by simp) (fun i ψ φ h1 h2 v w hφ => by
  obtain ⟨e, he, rfl⟩ := map_get h1
  obtain ⟨z, hz, rfl⟩ := map_get h2
  rw [he] at hz
  cases hz
  exact vn_vv (h i e he) v w hφ)
end Go.Proofs.YtnhfpekpdephjaaGreat
