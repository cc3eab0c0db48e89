import Derived.Test.YtoeopdmaogmjhaaHxA
import Derived.Test.YtoeopdmaogmjhaaVcA
import Derived.Test.YtoeopdmaogmjhaaGsD
import Derived.Test.YtoeopdmaogmjhaaGsB
import Derived.Test.YtoeopdmaogmjhaaGsA
import Derived.Test.YtoeopdmaogmjhaaJaA
/-
 mat.cut's closure: the next row is cut off the list; boxes of one cell.
-/
namespace Go.Proofs.Ytoeopdmaogmjhaa
open Go Go.RowKit Nt
set_option linter.unusedSimpArgs false
set_option linter.unusedVariables false
set_option maxRecDepth 20000

theorem ldr_mat1 : Ldr 23 1 := fun ρ o x w b k u hu hc hx => by
  obtain ⟨e, h1⟩ := celv1 hu
  have h2 : w.cell? ⟨b, k, none⟩ = some u := hc 0 u (by rw [e]; rfl)
  clear hc hu e
  unfold execOp
  go_simp
/-! The rows that are cut off: how many numbers stand ahead of each. -/
def ahead (ss : List Nat) (k : Nat) : Nat := (ss.take k).sum
end Go.Proofs.Ytoeopdmaogmjhaa

/-
 The norm of a suffix as package filter reckons it: one numerator, what did not come out even beside it.
-/
namespace Go.Proofs.Ytoeopdmaogmjhaa
open Go Go.RowKit Nt
set_option linter.unusedSimpArgs false
set_option linter.unusedVariables false
set_option maxRecDepth 20000

/-- Over the first k shifts: each times its row's number with i. -/
def fbL (sh : List Int) (L : List (List Int)) (n i : Nat) : Nat → List Int
 | 0 => []
 | k + 1 => fbL sh L n i k ++ [sh.getD k 0 * (L.getD (n - 1 - k) []).getD i 0]
theorem fbL_len (sh : List Int) (L : List (List Int)) (n i : Nat) : ∀ k, (fbL sh L n i k).length = k
 | 0 => rfl
 | k + 1 => by simp [fbL, fbL_len sh L n i k]
/-- D (i + 1) times the sum w (i), i being the row of the shift k. -/
def fW (D sh : List Int) (L : List (List Int)) (n k : Nat) : Int := sh.getD k 0 * D.getD (n - 1 - k + 1) 0 + sumZ (fbL sh L n (n - 1 - k) k)
/-- What is divided next. -/
def fM (D sh : List Int) (L : List (List Int)) (n k : Nat) (p : Int × Int) : Int := p.1 * D.getD (n - 1 - k) 0 + p.2 * (fW D sh L n k * fW D sh L n k)
/-- The numerator, and what gathers beside it. -/
def fS (D sh : List Int) (L : List (List Int)) (n : Nat) : Nat → Int × Int
 | 0 => (0, 1)
 | k + 1 => if rm (fM D sh L n k (fS D sh L n k)) (D.getD (n - 1 - k + 1) 0) = 0 then (fl (fM D sh L n k (fS D sh L n k)) (D.getD (n - 1 - k + 1) 0), (fS D sh L n k).2) else (fM D sh L n k (fS D sh L n k), (fS D sh L n k).2 * D.getD (n - 1 - k + 1) 0)
theorem fS_pos {D sh : List Int} {L : List (List Int)} (g : Good D L) {n : Nat} (hn : n = L.length) : ∀ k, k ≤ n → 0 < (fS D sh L n k).2
 | 0, _ => Int.one_pos
 | k + 1, h => by
  have ih := fS_pos (sh := sh) g hn k (by omega)
  rw [fS]
  split
  ·exact ih
  ·exact Int.mul_pos ih (g.d _ (by have := g.len; omega))
end Go.Proofs.Ytoeopdmaogmjhaa

/-
 Package filter's struct of data, a target and a denominator.
-/
namespace Go.Proofs.Ytoeopdmaogmjhaa
open Go Go.RowKit Nt
set_option linter.unusedSimpArgs false
set_option linter.unusedVariables false
set_option maxRecDepth 20000

/-- The data's two lists, the target's list, the denominator. -/
def AM (pd pl pt pz : Pr) : Pr := fun v w => ∃ x y t p q, v = .agg #[x, y, t, p, q] ∧ (#[x, y, t, p, q] : Array Value).all (·.oneCell') = true ∧ pd x w ∧ pl y w ∧ pt t w ∧ pz (.agg #[p, q]) w
theorem shp_am {pd pl pt pz : Pr} : Shp 5 (AM pd pl pt pz) := fun u w ⟨x, y, t, p, q, e, h, _⟩ => ⟨_, e, rfl, h⟩
theorem am_imp {pd pl pt pz pd' pl' pt' pz' : Pr} (h1 : ∀ v w, pd v w → pd' v w) (h2 : ∀ v w, pl v w → pl' v w) (h3 : ∀ v w, pt v w → pt' v w) (h4 : ∀ v w, pz v w → pz' v w) : ∀ v w, AM pd pl pt pz v w → AM pd' pl' pt' pz' v w :=
 fun v w ⟨x, y, t, p, q, e, h, a, b, c, d⟩ => ⟨x, y, t, p, q, e, h, h1 _ _ a, h2 _ _ b, h3 _ _ c, h4 _ _ d⟩
theorem box_aim {φ : Pr} (h : Shp 5 φ) (ρ : Operand → Value) (o : Oper) (x : Operand) (w : World) (hφ : φ (ρ x) w) : (execOp ρ { o with op := .box 96 x }).run Try.prog w = .ok (.value (.pointer (some ⟨w.heap.size, 0, none⟩))) (w.alloc (.cells (ρ x).cells 96 (0, 0))) := by
  obtain ⟨cs, e, h1, h2⟩ := h _ _ hφ
  unfold execOp
  rw [e]
  go_simp
theorem part_aim0 (ρ : Operand → Value) (o : Oper) (x : Operand) (w : World) (b f : Nat) (h : ρ x = .pointer (some ⟨b, f, none⟩)) : (execOp ρ { o with op := .fieldAddr 96 x 0 }).run Try.prog w = .ok (.value (.pointer (some ⟨b, f, none⟩))) w := by
  unfold execOp
  go_simp
theorem part_aim1 (ρ : Operand → Value) (o : Oper) (x : Operand) (w : World) (b f : Nat) (h : ρ x = .pointer (some ⟨b, f, none⟩)) : (execOp ρ { o with op := .fieldAddr 96 x 1 }).run Try.prog w = .ok (.value (.pointer (some ⟨b, f + 2, none⟩))) w := by
  unfold execOp
  go_simp
theorem part_aim2 (ρ : Operand → Value) (o : Oper) (x : Operand) (w : World) (b f : Nat) (h : ρ x = .pointer (some ⟨b, f, none⟩)) : (execOp ρ { o with op := .fieldAddr 96 x 2 }).run Try.prog w = .ok (.value (.pointer (some ⟨b, f + 3, none⟩))) w := by
  unfold execOp
  go_simp
/-- The aim of data that came in as these very lists. -/
def AMI (x y : Value) (n : Nat) (τ : List Int) (d : Int) : Nat → Pr := fun lo => AM (Is x) (Is y) (VN n τ lo) (ZN d lo)
theorem fresh_ami {x y : Value} {n : Nat} {τ : List Int} {d : Int} : Fresh (AMI x y n τ d) :=
 ⟨fun lo lo' v w hl h => am_imp (fun _ _ h => h) (fun _ _ h => h) (fun v w h => fresh_vn.mono _ _ v w hl h) (fun v w h => (fresh_zn d).mono _ _ v w hl h) v w h, fun lo v w w' B hB ⟨a, b, t, p, q, e, h, h1, h2, h3, h4⟩ ev => ⟨a, b, t, p, q, e, h, h1, h2, fresh_vn.ev _ _ _ _ B hB h3 ev, (fresh_zn d).ev _ _ _ _ B hB h4 ev⟩⟩
section
variable {ops : Array Oper} {l : List Kd} {bx : Bxs} {sl : List (Tmp × Pr)} {i : Nat} {o : Oper} {Q : Exit → Act → World → Prop} {a0 : Act} {n : Nat} {w0 : World}
/-- The struct is made of its fields. -/
theorem owe_build_am {x y z : Operand} {pd pl pt pz : Pr} (ho : ops[i]? = some o) (hw : Wants ops l bx sl i o) (hop : o.op = .build 96 #[(0, x), (1, y), (2, z)]) (hx : Opnd ops l bx sl i x (SF [pd, pl])) (hy : Opnd ops l bx sl i y pt) (hz : Opnd ops l bx sl i z pz) (ht : ∀ v w, pt v w → ∃ p m c, v = .slice p m c) (hS : Shp 2 pz) (hk : kdAt l i = .val (AM pd pl pt pz)) : Owed Try.prog ops Q l bx sl a0 n w0 i :=
  owe_val ho hw hk fun vs B a w c => by
    have h1 := hx a0 n w0 vs B a w c
    have h2 := hy a0 n w0 vs B a w c
    have h3 := hz a0 n w0 vs B a w c
    obtain ⟨cs, e1, c1, c2, _⟩ := id h1.now
    obtain ⟨ds, e3, d1, d2⟩ := hS _ _ h3.now
    obtain ⟨py, my, cy, ey⟩ := ht _ _ h2.now
    have hone : (a.eval y).oneCell' = true := by rw [ey]; rfl
    match cs, c1, e1, c2 with
    | ⟨[x0, x1]⟩, _, e1, c2 =>
      match ds, d1, e3, d2 with
      | ⟨[z0, z1]⟩, _, e3, d2 =>
        have hall : (#[x0, x1, a.eval y, z0, z1] : Array Value).all (·.oneCell') = true := by
          simp at c2 d2 ⊢
          exact ⟨c2.1, c2.2, hone, d2.1, d2.2⟩
        refine ⟨.agg #[x0, x1, a.eval y, z0, z1], ?_, fun w' e' => ⟨x0, x1, a.eval y, z0, z1, rfl, hall, ?_, ?_, h2 w' e', e3 ▸ h3 w' e'⟩⟩
        · unfold execOp
          rw [hop]
          have c3 : x0.oneCell' = true ∧ x1.oneCell' = true := by simpa using c2
          have d3 : z0.oneCell' = true ∧ z1.oneCell' = true := by simpa using d2
          clear h1 h2 h3 hx hy hz hall c2 d2
          generalize a.eval = ρ at e1 e3 ey hone
          obtain ⟨c4, c5⟩ := c3
          obtain ⟨d4, d5⟩ := d3
          go_simp
        · obtain ⟨cs', e4, _, _, h4⟩ := h1 w' e'
          rw [e1] at e4
          simp at e4
          subst e4
          obtain ⟨u, hu, hp⟩ := h4 0 _ rfl
          simp at hu
          subst hu
          exact hp
        · obtain ⟨cs', e4, _, _, h4⟩ := h1 w' e'
          rw [e1] at e4
          simp at e4
          subst e4
          obtain ⟨u, hu, hp⟩ := h4 1 _ rfl
          simp at hu
          subst hu
          exact hp
end
end Go.Proofs.Ytoeopdmaogmjhaa

/-
 Structs by their parts: each part some cells from some place on; read, written part by part, and through a pointer.
-/
namespace Go.Proofs.Ytoeopdmaogmjhaa
open Go Go.RowKit Nt
set_option linter.unusedSimpArgs false
set_option linter.unusedVariables false
set_option maxRecDepth 20000

/-- What stands in sz cells from off on. -/
def ofPart (cs : Array Value) (off sz : Nat) : Value := ofCells sz (cs.extract off (off + sz))
theorem part_cells {cs : Array Value} {n off sz : Nat} (h1 : cs.size = n) (h2 : cs.all (·.oneCell') = true) (hz : 0 < sz) (hb : off + sz ≤ n) : (ofPart cs off sz).cells = cs.extract off (off + sz) ∧ Celv sz (ofPart cs off sz) := by
  have hs : (cs.extract off (off + sz)).size = sz := by simp; omega
  have ha : (cs.extract off (off + sz)).all (·.oneCell') = true := by
    rw [Array.all_eq_true_iff_forall_mem] at h2 ⊢
    intro x hx
    obtain ⟨j, hj, rfl⟩ := Array.mem_iff_getElem.1 hx
    rw [Array.getElem_extract]
    exact h2 _ (Array.getElem_mem _)
  unfold ofPart
  generalize cs.extract off (off + sz) = ds at hs ha
  by_cases e : sz = 1
  · subst e
    obtain ⟨l⟩ := ds
    match l, hs with
    | [x], _ =>
      have hx : x.oneCell' = true := by simpa using ha
      have hc := celv_one hx
      have e1 : ofCells 1 (#[x] : Array Value) = x := rfl
      rw [e1]
      have e2 : x.cells = #[x] := by cases x <;> first | rfl | simp [Value.oneCell'] at hx
      exact ⟨e2, hc⟩
  · have e1 : ofCells sz ds = .agg ds := by simp [ofCells, e]
    rw [e1]
    exact ⟨rfl, by have := celv_agg (cs := ds) (by omega) ha; rwa [hs] at this⟩
/-- A struct of n cells, by its parts: place, cells, what is said. -/
def ST (n : Nat) (ps : List (Nat × Nat × Pr)) : Pr := fun v w => ∃ cs : Array Value, v = .agg cs ∧ cs.size = n ∧ cs.all (·.oneCell') = true ∧ ∀ (k : Nat) p, ps[k]? = some p → p.2.2 (ofPart cs p.1 p.2.1) w
theorem shp_st {n : Nat} {ps : List (Nat × Nat × Pr)} : Shp n (ST n ps) := fun u w ⟨cs, e, h1, h2, _⟩ => ⟨cs, e, h1, h2⟩
def STN (n : Nat) (qs : List (Nat × Nat × (Nat → Pr))) : Nat → Pr := fun lo => ST n (qs.map fun q => (q.1, q.2.1, q.2.2 lo))
theorem fresh_st {n : Nat} {qs : List (Nat × Nat × (Nat → Pr))} (h : ∀ q ∈ qs, Fresh q.2.2) : Fresh (STN n qs) := by
 refine ⟨fun lo lo' v w hl ⟨cs, e, h1, h2, hp⟩ => ⟨cs, e, h1, h2, fun k p hk => ?_⟩, fun lo v w w' B hB ⟨cs, e, h1, h2, hp⟩ ev => ⟨cs, e, h1, h2, fun k p hk => ?_⟩⟩
 ·rw [List.getElem?_map] at hk
  obtain ⟨q, hq, rfl⟩ := Option.map_eq_some_iff.1 hk
  exact (h q (List.mem_of_getElem? hq)).mono _ _ _ _ hl (hp k _ (by rw [List.getElem?_map, hq]; rfl))
 ·exact (by
   have hk' := hk
   rw [List.getElem?_map] at hk'
   obtain ⟨q, hq, rfl⟩ := Option.map_eq_some_iff.1 hk'
   exact (h q (List.mem_of_getElem? hq)).ev _ _ _ _ B hB (hp k _ hk) ev)
theorem st_imp {n : Nat} {ps ps' : List (Nat × Nat × Pr)} (h : ∀ (k : Nat) p', ps'[k]? = some p' → ∃ φ, ps[k]? = some (p'.1, p'.2.1, φ) ∧ ∀ v w, φ v w → p'.2.2 v w) : ∀ v w, ST n ps v w → ST n ps' v w := fun v w ⟨cs, e, h1, h2, hp⟩ => ⟨cs, e, h1, h2, fun k p' hk => by
 obtain ⟨φ, hφ, hi⟩ := h k p' hk
 exact hi _ _ (hp k _ hφ)⟩
/-- One part in a weaker word. -/
theorem pload_st {T T' : TypeId} {n off sz k : Nat} {ps : List (Nat × Nat × Pr)} {φ : Pr} (hE : Ldr T' sz) (hk : ps[k]? = some (off, sz, φ)) (hz : 0 < sz) (hb : off + sz ≤ n) (ρ : Operand → Value) (o : Oper) (x : Operand) (w : World) (b : Nat) (u : Value) (hφ : ST n ps u w) (hx : ρ x = .pointer (some ⟨b, off, none⟩)) (hu : w.heap[b]? = some (.cells u.cells T (0, 0))) :
  ∃ v, (execOp ρ { o with op := .load T' x }).run Try.prog w = .ok (.value v) w ∧ ∀ w', ST n ps u w' → φ v w' := by
 obtain ⟨cs, rfl, hs, ha, hp⟩ := hφ
 obtain ⟨hc, hv⟩ := part_cells hs ha hz hb
 refine ⟨ofPart cs off sz, hE ρ o x w b off _ hv (fun j c hj => ?_) hx, fun w' ⟨cs', e, _, _, hp'⟩ => ?_⟩
 ·rw [hc, Array.getElem?_extract] at hj
  rw [cell_of hu]
  show cs[off + j]? = some c
  split at hj
  ·exact hj
  ·cases hj
 ·cases e
  exact hp' k _ hk
/-- Parts that a write of sz cells at off leaves. -/
def aside (offs : List (Nat × Nat)) (m off sz n : Nat) : Bool := (List.range offs.length).all fun j => j == m || (decide ((offs.getD j (0, 0)).1 + (offs.getD j (0, 0)).2 ≤ off) || decide (off + sz ≤ (offs.getD j (0, 0)).1)) && decide (0 < (offs.getD j (0, 0)).2) && decide ((offs.getD j (0, 0)).1 + (offs.getD j (0, 0)).2 ≤ n)
theorem st_upd {n off sz m : Nat} {ps : List (Nat × Nat × Pr)} {φ χ : Pr} {cs : Array Value} {u : Value} {w : World} (hs : cs.size = n) (ha : cs.all (·.oneCell') = true) (hz : 0 < sz) (hbd : off + sz ≤ n) (hm : ps[m]? = some (off, sz, φ)) (hd : aside (ps.map fun p => (p.1, p.2.1)) m off sz n = true) (hu : Celv sz u) (hχ : χ u w)
  (hp : ∀ (k : Nat) p, ps[k]? = some p → p.2.2 (ofPart cs p.1 p.2.1) w) : ST n (ps.set m (off, sz, χ)) (.agg (setsFrom cs off u.cells.toList)) w := by
 have hl : u.cells.toList.length = sz := by simp [hu.siz]
 have hsz : (setsFrom cs off u.cells.toList).size = n := by
  have := congrArg List.length (setsFrom_list u.cells.toList off cs (by omega))
  simp only [Array.length_toList, List.length_append, List.length_take, List.length_drop] at this
  have := hu.siz
  omega
 have hone : (setsFrom cs off u.cells.toList).all (·.oneCell') = true := by
  rw [Array.all_eq_true_iff_forall_mem] at ha ⊢
  intro x hx
  have h1 := hu.one
  rw [Array.all_eq_true_iff_forall_mem] at h1
  have hx' : x ∈ (setsFrom cs off u.cells.toList).toList := by simpa using hx
  rw [setsFrom_list _ _ _ (by omega)] at hx'
  rcases List.mem_append.1 hx' with hx' | hx'
  ·rcases List.mem_append.1 hx' with hx' | hx'
   ·exact ha x (by simpa using List.mem_of_mem_take hx')
   ·exact h1 x (by simpa using hx')
  ·exact ha x (by simpa using List.mem_of_mem_drop hx')
 refine ⟨_, rfl, hsz, hone, fun k p hk => ?_⟩
 rw [List.getElem?_set] at hk
 by_cases e : m = k
 ·subst e
  have hlt := (List.getElem?_eq_some_iff.1 hm).1
  rw [if_pos rfl, if_pos hlt] at hk
  simp only [Option.some.injEq] at hk
  subst hk
  obtain ⟨c1, c2⟩ := part_cells hsz hone hz hbd
  have : ofPart (setsFrom cs off u.cells.toList) off sz = u := celv_inj c2 hu (by
   rw [c1]
   apply Array.ext_getElem?
   intro j
   rw [Array.getElem?_extract, setsFrom_get _ _ _ _ (by omega)]
   by_cases hj : j < sz
   ·rw [if_pos (by omega), if_pos (by omega), show off + j - off = j by omega]
    simp
   ·rw [if_neg (by omega), Array.getElem?_eq_none (by have := hu.siz; omega)])
  show χ (ofPart _ off sz) w
  rw [this]
  exact hχ
 ·rw [if_neg e] at hk
  have hklt := (List.getElem?_eq_some_iff.1 hk).1
  have h1 := List.all_eq_true.1 hd k (by simpa using hklt)
  have h2 : ((ps.map fun p => (p.1, p.2.1)).getD k (0, 0)) = (p.1, p.2.1) := by rw [List.getD_eq_getElem?_getD, List.getElem?_map, hk]; rfl
  rw [h2] at h1
  simp only [Bool.or_eq_true, Bool.and_eq_true, beq_iff_eq, decide_eq_true_eq] at h1
  rcases h1 with h1 | ⟨⟨h1, h3⟩, h4⟩
  ·exact absurd h1.symm e
  obtain ⟨c1, c2⟩ := part_cells hsz hone h3 h4
  obtain ⟨d1, d2⟩ := part_cells hs ha h3 h4
  have : ofPart (setsFrom cs off u.cells.toList) p.1 p.2.1 = ofPart cs p.1 p.2.1 := celv_inj c2 d2 (by
   rw [c1, d1]
   apply Array.ext_getElem?
   intro j
   rw [Array.getElem?_extract, Array.getElem?_extract]
   by_cases hj : j < p.2.1
   ·rw [if_pos (by rw [hsz]; omega), if_pos (by rw [hs]; omega), setsFrom_get _ _ _ _ (by omega), if_neg (by omega)]
   ·rw [if_neg (by rw [hsz]; omega), if_neg (by rw [hs]; omega)])
  rw [this]
  exact hp k p hk
section
variable {ops : Array Oper} {l : List Kd} {bx : Bxs} {sl : List (Tmp × Pr)} {i : Nat} {o : Oper} {Q : Exit → Act → World → Prop} {a0 : Act} {n0 : Nat} {w0 : World}
/-- A part of a box is written. -/
theorem owe_pset {T T' : TypeId} {t k off sz n m : Nat} {x y : Operand} {ps : List (Nat × Nat × Pr)} {φ χ : Pr} (ho : ops[i]? = some o) (hw : Wants ops l bx sl i o) (hop : o.op = .store T' x y) (hx : Opnd ops l bx sl i x (Part a0 t off)) (hb : bx[k]? = some (t, .box T (ST n ps))) (hn : unturned ops l i (.inl t) = true) (hy : Opnd ops l bx sl i y χ) (hS : Sto T' sz) (hc : Cel sz χ) (hz : 0 < sz) (hbd : off + sz ≤ n) (hm : ps[m]? = some (off, sz, φ)) (hd : aside (ps.map fun p => (p.1, p.2.1)) m off sz n = true) (hk : kdAt l i = .put (.inl t) (.box T (ST n (ps.set m (off, sz, χ))))) : Owed Try.prog ops Q l bx sl a0 n0 w0 i := fun vs B a w c o' ho' => by
 obtain rfl : o = o' := Option.some.inj (ho.symm.trans ho')
 obtain ⟨b, u, hp0, hB, hu, hφ⟩ := c.box t _ (List.mem_of_getElem? hb) hn
 obtain ⟨b', hb0, hv0⟩ := (hx a0 n0 w0 vs B a w c).now
 rw [hp0] at hb0
 simp at hb0
 subst hb0
 have hv := hy a0 n0 w0 vs B a w c
 have hcy := hc _ _ hv.now
 obtain ⟨cs, rfl, h2, h3, h4⟩ := id hφ.now
 have hthere : w.there b off sz := fun j hj => by
  refine ⟨?_, by simp [World.frozen?, hu]⟩
  rw [cell_of hu]
  show (cs[off + j]?).isSome = true
  simp [show off + j < cs.size from by omega]
 have h' : (execOp a.eval o).run Try.prog w = .ok .skip (w.setRow b (setsFrom cs off (a.eval y).cells.toList)) := by
  rw [← setCells_row b _ _ w cs hu, ← hS a.eval o x y w b off _ hcy hthere hv0 rfl]
  unfold execOp
  rw [hop]
 simp only [wpOp, ho]
 rw [if_pos (hw a0 n0 w0 vs B a w c)]
 refine Or.inl ?_
 unfold Oper.wp
 rw [h', Oper.upon_skip]
 refine ⟨undef, rfl, ?_⟩
 rw [hk]
 exact put_box (x := .inl t) (v := .agg (setsFrom cs off (a.eval y).cells.toList)) (fun b h => idset_plain (x := .inl t) (List.mem_of_getElem? hb) rfl h) hp0 hB hu (fun w' e' => by
  obtain ⟨cs', e1, _, _, hp'⟩ := hφ w' e'
  cases e1
  exact st_upd h2 h3 hz hbd hm hd hcy (hv w' e') hp') _
/-- A pointer at a struct: the address of a part. -/
theorem owe_apart {T : TypeId} {f d n sz : Nat} {x : Operand} {φ χ : Pr} (ho : ops[i]? = some o) (hw : Wants ops l bx sl i o) (hop : o.op = .fieldAddr T x f) (hx : Opnd ops l bx sl i x (AtE n φ)) (hr : ∀ (ρ : Operand → Value) (w : World) (b k : Nat), ρ x = .pointer (some ⟨b, k, none⟩) → (execOp ρ { o with op := .fieldAddr T x f }).run Try.prog w = .ok (.value (.pointer (some ⟨b, k + d, none⟩))) w)
  (hp : ∀ u w, u.cells.size = n → φ u w → ∃ p, (∀ (j : Nat) y, p.cells[j]? = some y → u.cells[d + j]? = some y) ∧ p.cells.size = sz ∧ χ p w) (hk : kdAt l i = .val (AtE sz χ)) : Owed Try.prog ops Q l bx sl a0 n0 w0 i :=
 owe_val ho hw hk fun vs B a w c => by
  have h := hx a0 n0 w0 vs B a w c
  obtain ⟨b, f', u, e, _, _, _⟩ := id h.now
  refine ⟨.pointer (some ⟨b, f' + d, none⟩), ?_, fun w' ev => ?_⟩
  ·rw [← hr a.eval w b f' e]
   unfold execOp
   rw [hop]
  ·obtain ⟨b', f'', u', e', hc', hs', hφ'⟩ := h w' ev
   rw [e] at e'
   simp at e'
   obtain ⟨rfl, rfl⟩ := e'
   obtain ⟨p, h1, h2, h3⟩ := hp u' w' hs' hφ'
   refine ⟨b, f' + d, p, rfl, fun j y hy => ?_, h2, h3⟩
   rw [Nat.add_assoc]
   exact hc' _ _ (h1 j y hy)
theorem owe_ptnil {φ : Pr} {x : Operand} (ho : ops[i]? = some o) (hw : Wants ops l bx sl i o) (hop : o.op = .nilCheck x) (hx : Opnd ops l bx sl i x φ) (hp : ∀ v w, φ v w → ∃ b k, v = .pointer (some ⟨b, k, none⟩)) (hk : kdAt l i = .val φ) : Owed Try.prog ops Q l bx sl a0 n0 w0 i :=
  owe_val ho hw hk fun vs B a w c => by
    have h := hx a0 n0 w0 vs B a w c
    obtain ⟨g, k, e⟩ := hp _ _ h.now
    refine ⟨a.eval x, ?_, h⟩
    rw [e]
    unfold execOp
    rw [hop]
    clear h hx c
    generalize a.eval = ρ at e
    go_simp
/-- A call whose answer holds through all that the caller may turn, if its arguments do. -/
theorem owe_callB1 {f : FuncId} {x : Operand} {φ χ : Pr} {ts : Array TypeId} (ho : ops[i]? = some o) (hw : Wants ops l bx sl i o) (hop : o.op = .call { callee := .value (.func f), args := #[x], argTypes := ts }) (hx : Opnd ops l bx sl i x φ) (hk : kdAt l i = .val χ) (hcf : ∀ args w, (callFunc f args).run Try.prog w = .ok (.enter f args) w)
  (C : ∀ (B : Nat → Prop) w u, w0.heap.size ≤ w.heap.size → (∀ k, B k → k < w.heap.size) → Has B w φ u → Calls Try.prog f #[u] w fun e w' => ∃ r, e = .returned r ∧ Below w.heap.size w w' ∧ Has B w' χ r) : Owed Try.prog ops Q l bx sl a0 n0 w0 i :=
 owe_callW ho hw hop hk hcf fun vs B a w c => by
  rw [show (#[x] : Array Operand).map a.eval = #[a.eval x] from by simp]
  exact C B w _ c.lo (fun k hk => (c.bnd k hk).2) (hx a0 n0 w0 vs B a w c)
theorem owe_callB2 {f : FuncId} {x y : Operand} {φ ψ χ : Pr} {ts : Array TypeId} (ho : ops[i]? = some o) (hw : Wants ops l bx sl i o) (hop : o.op = .call { callee := .value (.func f), args := #[x, y], argTypes := ts }) (hx : Opnd ops l bx sl i x φ) (hy : Opnd ops l bx sl i y ψ) (hk : kdAt l i = .val χ) (hcf : ∀ args w, (callFunc f args).run Try.prog w = .ok (.enter f args) w)
  (C : ∀ (B : Nat → Prop) w u v, w0.heap.size ≤ w.heap.size → (∀ k, B k → k < w.heap.size) → Has B w φ u → Has B w ψ v → Calls Try.prog f #[u, v] w fun e w' => ∃ r, e = .returned r ∧ Below w.heap.size w w' ∧ Has B w' χ r) : Owed Try.prog ops Q l bx sl a0 n0 w0 i :=
 owe_callW ho hw hop hk hcf fun vs B a w c => by
  rw [show (#[x, y] : Array Operand).map a.eval = #[a.eval x, a.eval y] from by simp]
  exact C B w _ _ c.lo (fun k hk => (c.bnd k hk).2) (hx a0 n0 w0 vs B a w c) (hy a0 n0 w0 vs B a w c)
end
/-- This very value, and what is said of it. -/
def PI (v0 : Value) (φ : Pr) : Pr := fun v w => v = v0 ∧ φ v w
/-- The elements of a list, by their very values. -/
def Pl (vs : List Value) (φs : List Pr) : List Pr := List.zipWith PI vs φs
/-- A list without spare room. -/
def ArC (sz n : Nat) (φs : List Pr) : Pr := fun v w => Ar sz n φs v w ∧ ∃ p, v = .slice p n n
/-- A list in a block from lo on. -/
def ArN (sz n : Nat) (φs : List Pr) (lo : Nat) : Pr := fun v w => Ar sz n φs v w ∧ ∀ b o n c, v = .slice (some ⟨b, o, none⟩) n c → lo ≤ b
theorem ar_fix {B : Nat → Prop} {w : World} {sz n : Nat} {φs : List Pr} {v : Value} (hz : 0 < sz) (hc : ∀ (k : Nat) φ, φs[k]? = some φ → Cel sz φ) (h : Has B w (Ar sz n φs) v) :
  ∃ us : List Value, us.length = n ∧ (∀ u ∈ us, Celv sz u) ∧ (∀ (k : Nat) u φ, us[k]? = some u → φs[k]? = some φ → Has B w φ u) ∧ ∃ p c, v = .slice p n c ∧ (p = none → n = 0) ∧ ∀ a, p = some a → ∀ (j : Nat) x, (cellsOf us)[j]? = some x → w.cell? (a.add j) = some x := by
 obtain ⟨p, c, rfl, hl, hb, ha⟩ := id h.now
 have key : ∀ k : Nat, ∃ u : Value, ∀ φ, φs[k]? = some φ → Celv sz u ∧ Has B w φ u ∧ ∃ b o, p = some ⟨b, o, none⟩ ∧ ∀ (j : Nat) x, u.cells[j]? = some x → w.cell? ⟨b, o + sz * k + j, none⟩ = some x := fun k => by
  cases hk : φs[k]? with
  | none => exact ⟨undef, fun φ hφ => by cases hφ⟩
  | some φ =>
   obtain ⟨b, o, c', e1, _, hat⟩ := ar_at h hk
   obtain ⟨b', o', u, e2, h1, h2, h3⟩ := at_fix hz (hc k φ hk) hat
   cases e1
   cases e2
   exact ⟨u, fun φ' hφ' => by cases hφ'; exact ⟨h2, h3, _, _, rfl, h1⟩⟩
 obtain ⟨f, hf⟩ := Classical.axiomOfChoice key
 have hget : ∀ k u, ((List.range n).map f)[k]? = some u → u = f k ∧ ∃ φ, φs[k]? = some φ := fun k u hu => by
  rw [List.getElem?_map] at hu
  obtain ⟨k', h1, rfl⟩ := Option.map_eq_some_iff.1 hu
  have hlt := (List.getElem?_eq_some_iff.1 h1).1
  rw [List.length_range] at hlt
  rw [List.getElem?_range hlt] at h1
  cases h1
  exact ⟨rfl, _, List.getElem?_eq_getElem (by omega)⟩
 have hcv : ∀ u ∈ (List.range n).map f, Celv sz u := fun u hu => by
  obtain ⟨k, hk⟩ := List.mem_iff_getElem?.1 hu
  obtain ⟨rfl, φ, hφ⟩ := hget k u hk
  exact (hf k φ hφ).1
 refine ⟨(List.range n).map f, by simp, hcv, fun k u φ hu hφ => ?_, p, c, rfl, fun e => ?_, fun a ea j x hj => ?_⟩
 ·obtain ⟨rfl, _⟩ := hget k u hu
  exact (hf k φ hφ).2.1
 ·by_cases hn : n = 0
  ·exact hn
  ·obtain ⟨φ, hφ⟩ : ∃ φ, φs[0]? = some φ := ⟨_, List.getElem?_eq_getElem (by omega)⟩
   obtain ⟨_, _, b, o, e1, _⟩ := hf 0 φ hφ
   rw [e] at e1
   cases e1
 ·have hlt := (List.getElem?_eq_some_iff.1 hj).1
  rw [cellsOf_len hcv, List.length_map, List.length_range] at hlt
  have hk : j / sz < n := Nat.div_lt_of_lt_mul (by rw [Nat.mul_comm]; exact hlt)
  obtain ⟨φ, hφ⟩ : ∃ φ, φs[j / sz]? = some φ := ⟨_, List.getElem?_eq_getElem (by omega)⟩
  obtain ⟨c1, _, b, o, e1, h1⟩ := hf _ φ hφ
  have hg : ((List.range n).map f)[j / sz]? = some (f (j / sz)) := by rw [List.getElem?_map, List.getElem?_range hk]; rfl
  have hr := cellsOf_get hcv hg (j % sz) (Nat.mod_lt _ hz)
  have ej : j / sz * sz + j % sz = j := by rw [Nat.mul_comm]; exact Nat.div_add_mod j sz
  rw [ej, hj] at hr
  have := h1 _ _ hr.symm
  rw [e1] at ea
  cases ea
  rw [addr_add, ← this]
  congr 2
  rw [Nat.mul_comm] at ej
  omega
section
variable {ops : Array Oper} {l : List Kd} {bx : Bxs} {sl : List (Tmp × Pr)} {i : Nat} {o : Oper} {Q : Exit → Act → World → Prop} {a0 : Act} {n0 : Nat} {w0 : World}
/-- The whole of a list, without its spare room. -/
theorem owe_cut3 {x y z : Operand} {sz n : Nat} {φs : List Pr} (ho : ops[i]? = some o) (hw : Wants ops l bx sl i o) (hop : o.op = .slice 22 x none (some y) (some z)) (hx : Opnd ops l bx sl i x (Ar sz n φs)) (hy : Opnd ops l bx sl i y (iV (n : Nat))) (hz : Opnd ops l bx sl i z (iV (n : Nat))) (hk : kdAt l i = .val (ArC sz n φs)) : Owed Try.prog ops Q l bx sl a0 n0 w0 i :=
  owe_val ho hw hk fun vs B a w c => by
    have h := hx a0 n0 w0 vs B a w c
    have hyv : a.eval y = .int .i64 (n : Nat) := (hy a0 n0 w0 vs B a w c).now
    have hzv : a.eval z = .int .i64 (n : Nat) := (hz a0 n0 w0 vs B a w c).now
    obtain ⟨p, k, e, _, ⟨h1, h2, h3⟩, _⟩ := id h.now
    refine ⟨.slice p n n, ?_, fun w' ev => ?_⟩
    · unfold execOp
      rw [hop]
      clear h hx hy hz c
      generalize a.eval = ρ at e hyv hzv
      cases p with
      | none =>
        have hk0 : k = 0 := h3 rfl
        subst hk0
        obtain rfl : n = 0 := by omega
        go_simp
      | some b => go_simp
    · obtain ⟨p', k', e', l', ⟨g1, g2, g3⟩, a'⟩ := h w' ev
      rw [e] at e'
      cases e'
      exact ⟨⟨p, n, rfl, l', ⟨Nat.le_refl _, by omega, fun q => by have := g3 q; omega⟩, a'⟩, p, rfl⟩
/-- One element behind a list without spare room: a list in new memory. -/
theorem owe_appfull {x y : Operand} {T E sz bytes m lo : Nat} {φs : List Pr} {χ : Pr} (ho : ops[i]? = some o) (hw : Wants ops l bx sl i o) (hop : o.op = .call { callee := .builtin .append, args := #[x, y], argTypes := #[T, T] }) (hx : Opnd ops l bx sl i x (ArC sz m φs)) (hcx : ∀ (k : Nat) φ, φs[k]? = some φ → Cel sz φ) (hy : Opnd ops l bx sl i y (Sng E sz χ lo)) (hE : EInf E sz bytes) (hT : Try.prog.underlying T = some (.slice E)) (hl : m + 1 ≤ maxLen ∧ 2 * (m + 1) * bytes ≤ 281474976710656) (hk : kdAt l i = .val (ArN sz (m + 1) (φs ++ [χ]) w0.heap.size)) : Owed Try.prog ops Q l bx sl a0 n0 w0 i :=
 owe_grow ho hw hk fun vs B a w c => by
  obtain ⟨⟨i0, z, hi, hzr, hsz, hby, hzs⟩, hpos⟩ := id hE
  have hX := hx a0 n0 w0 vs B a w c
  have hY := hy a0 n0 w0 vs B a w c
  obtain ⟨us, hul, hcv, hall, p, cc, e1, hp0, hcells⟩ := ar_fix hpos hcx (hX.imp (fun w h => h.1))
  obtain ⟨p', e2⟩ := hX.now.2
  rw [e1] at e2
  simp only [Value.slice.injEq, true_and] at e2
  obtain ⟨e3, e4⟩ := e2
  subst e3
  have e5 := e4.symm
  subst e5
  have hlφ : φs.length = m := by obtain ⟨_, _, _, h, _⟩ := hX.now.1; exact h
  have hmy : 0 < 1 * sz := by omega
  obtain ⟨g, c', ys, ey, ⟨k1, k2, k3⟩, k4, k5, hχ⟩ := src_fix hmy (hY.imp (fun w h => b1_src _ w h))
  have hnews : ∀ j u, ys[j]? = some u → w.cell? ((⟨g, 0, none⟩ : Addr).add j) = some u := fun j u hu => by
   rw [addr_add]
   simp only [World.cell?, k4, Nat.zero_add]
   simpa using hu
  have holds : (cellsOf us).length = m * sz := by rw [cellsOf_len hcv, hul]
  have hrun : ∃ cap, (Builtin.append_ #[T, T] o.type #[.slice p m m, .slice (some ⟨g, 0, none⟩) 1 c']).run Try.prog w = .ok (.slice (some ⟨w.heap.size, 0, none⟩) (m + 1) cap) (w.drew.alloc (.cells ((cellsOf us).toArray ++ ys.toArray ++ Builtin.zeroCells z.cells (cap - (m + 1))) E)) ∧ m + 1 ≤ cap ∧ cap ≤ maxLen := by
   have hb : i0.bytes = bytes := hby
   cases p with
   | none =>
    have hm0 := hp0 rfl
    subst hm0
    have hus : us = [] := List.length_eq_zero_iff.1 hul
    subst hus
    have h := run_append_nil (P := Try.prog) w T o.type E i0 z hT hi hzr ⟨g, 0, none⟩ 1 c' ys (by rw [hsz]; exact k1) hnews (by omega) (by omega) (by rw [hb]; omega)
    refine ⟨grownCap w 1 0 E, ?_, grownCap_ge w 1 0 E, grownCap_le_maxLen w 1 0 E (by omega)⟩
    rw [h]
    simp [cellsOf]
   | some b =>
    have hc48 : Builtin.nextslicecap (m + 1) m * bytes ≤ 281474976710656 := Nat.le_trans (Nat.mul_le_mul_right _ (nextslicecap_le (by omega))) hl.2
    have h := run_append_grow (P := Try.prog) w T o.type E i0 z hT hi hzr b m m (cellsOf us) (by rw [hsz]; exact holds) (hcells b rfl) ⟨g, 0, none⟩ 1 c' ys (by rw [hsz]; exact k1) hnews (by omega) (by have := hl.1; unfold maxLen at this; omega) (by rw [hb]; exact hc48)
    exact ⟨grownCap w (m + 1) m E, h, grownCap_ge _ _ _ _, grownCap_le_maxLen _ _ _ _ hl.1⟩
  obtain ⟨cap, hr, hc1, hc2⟩ := hrun
  have hb : Below w.heap.size w (w.drew.alloc (.cells ((cellsOf us).toArray ++ ys.toArray ++ Builtin.zeroCells z.cells (cap - (m + 1))) E)) := ((Below.refl w.heap.size w).drew).alloc (Nat.le_refl _) _
  refine ⟨.slice (some ⟨w.heap.size, 0, none⟩) (m + 1) cap, _, ?_, hb, fun w'' e'' => ?_⟩
  ·unfold execOp
   rw [hop]
   simp only [resolve, invoke, builtin, Sem.run_bind, Sem.run_pure, Result.andThen_ok, List.map_toArray, List.map_cons, List.map_nil, e1, ey, hr]
  ·have ev : Ev B w w'' := ⟨e''.os.trans hb.os, e''.tape.trans hb.tape, e''.output.trans hb.output, Nat.le_trans hb.size e''.size, fun k hk hn => (e''.block k (Nat.lt_of_lt_of_le hk hb.size) hn).trans (hb.block k hk)⟩
   obtain ⟨vs', ey', evl, evc, ever⟩ := hχ w'' ev
   match vs', evl with
   | [y0], _ =>
    have hblk : w''.heap[w.heap.size]? = some (.cells ((cellsOf us).toArray ++ ys.toArray ++ Builtin.zeroCells z.cells (cap - (m + 1))) E (0, 0)) := by
     rw [e''.block w.heap.size (Array.getElem?_eq_some_iff.1 (heap_alloc_last w.drew _)).1 (fun hB => by have := (c.bnd _ hB).2; omega)]
     exact heap_alloc_last _ _
    have eapp : cellsOf us ++ ys = cellsOf (us ++ [y0]) := by rw [cellsOf_append, ey']
    have hcv' : ∀ u ∈ us ++ [y0], Celv sz u := fun u hu => by
     rcases List.mem_append.1 hu with h | h
     ·exact hcv u h
     ·exact evc u h
    have hown : w''.ownsRow w0.heap.size E sz (.slice (some ⟨w.heap.size, 0, none⟩) (m + 1) cap) (m + 1) (cellsOf us ++ ys) := by
     refine ⟨by rw [List.length_append, holds, k1, Nat.add_mul], Or.inr ⟨w.heap.size, cap, _, rfl, c.lo, hblk, hc1, hc2, ?_, ?_⟩⟩
     ·simp only [Array.size_append, List.size_toArray, holds, k1, size_zeroCells, hzs]
      rw [Nat.sub_mul, Nat.add_mul]
      have := Nat.mul_le_mul_right sz hc1
      rw [Nat.add_mul] at this
      omega
     ·simp only [Array.toList_append]
      rw [List.take_append_of_le_length (by simp [holds, k1, Nat.add_mul]), List.take_of_length_le (by simp [holds, k1, Nat.add_mul])]
    refine ⟨row_ar hpos _ w'' _ hown ⟨us ++ [y0], eapp, by simp [hul, hlφ], hcv', fun j u φ hu hφ => ?_⟩, fun b o' n' c'' e => by cases e; exact c.lo⟩
    rcases Nat.lt_or_ge j m with hj | hj
    ·rw [List.getElem?_append_left (by omega)] at hu hφ
     exact hall j u φ hu hφ w'' ev
    ·rw [List.getElem?_append_right (by omega), hul] at hu
     rw [List.getElem?_append_right (by omega), hlφ] at hφ
     exact ever _ u φ hu hφ
end
end Go.Proofs.Ytoeopdmaogmjhaa

/-
 Package filter's rows, next, behind, shifts, norm.
-/
namespace Go.Proofs.Ytoeopdmaogmjhaa
open Go Go.RowKit Nt
set_option linter.unusedSimpArgs false
set_option linter.unusedVariables false
set_option maxRecDepth 20000


theorem fbL_get {sh : List Int} {L : List (List Int)} {n i : Nat} : ∀ {m k : Nat}, k < m → (fbL sh L n i m)[k]? = some (sh.getD k 0 * (L.getD (n - 1 - k) []).getD i 0)
 | m + 1, k, h => by
  have hl := fbL_len sh L n i m
  rw [fbL]
  rcases Nat.lt_or_ge k m with h1 | h1
  ·rw [List.getElem?_append_left (by omega)]
   exact fbL_get h1
  ·obtain rfl : k = m := by omega
   rw [List.getElem?_append_right (by omega), hl, Nat.sub_self]
   rfl
theorem fbL_dl {sh : List Int} {L : List (List Int)} {Ks K : Nat} (hs : Dl sh Ks) (hL : Mdl L K) (n i k : Nat) : Dl (fbL sh L n i k) (Ks + K) := fun j z h => by
 have hl := fbL_len sh L n i k
 have hj : j < k := by have := (List.getElem?_eq_some_iff.1 h).1; omega
 rw [fbL_get hj] at h
 simp only [Option.some.injEq] at h
 rw [← h, Int.natAbs_mul]
 exact digs_mul_len (dl_getD hs _) (dl_getD (mdl_getD hL _) _)
/-- The denominator times the shifts. -/
def shL (x : List Int) (dn : Int) (τ : List Int) (n : Nat) : Nat → List Int
 | 0 => []
 | k + 1 => shL x dn τ n k ++ [x.getD k 0 * dn - τ.getD (n - 1 - k) 0]
theorem shL_len (x : List Int) (dn : Int) (τ : List Int) (n : Nat) : ∀ k, (shL x dn τ n k).length = k
 | 0 => rfl
 | k + 1 => by simp [shL, shL_len x dn τ n k]
theorem shL_get {x : List Int} {dn : Int} {τ : List Int} {n : Nat} : ∀ {m k : Nat}, k < m → (shL x dn τ n m)[k]? = some (x.getD k 0 * dn - τ.getD (n - 1 - k) 0)
 | m + 1, k, h => by
  have hl := shL_len x dn τ n m
  rw [shL]
  rcases Nat.lt_or_ge k m with h1 | h1
  ·rw [List.getElem?_append_left (by omega)]
   exact shL_get h1
  ·obtain rfl : k = m := by omega
   rw [List.getElem?_append_right (by omega), hl, Nat.sub_self]
   rfl
theorem am_mdl {nD nL nT K : Nat} {D : List Int} {L : List (List Int)} {τ : List Int} {dn : Int} {u : Value} {w : World} (h : AM (Vv nD D K) (Mv nL L K) (Vv nT τ K) (Zv dn K) u w) : Dl D K ∧ Mdl L K ∧ Dl τ K ∧ (digs dn.natAbs).length ≤ K := by
 obtain ⟨_, _, _, _, _, _, _, a, b, c, d⟩ := h
 exact ⟨vv_dl a, mv_mdl b, vv_dl c, zv_dl d⟩

end Go.Proofs.Ytoeopdmaogmjhaa

/-
 The norm of all numbers is the squared length of the vector.
-/
namespace Go.Proofs.Ytoeopdmaogmjhaa
open Go Go.RowKit Nt
set_option linter.unusedSimpArgs false
set_option linter.unusedVariables false
set_option maxRecDepth 20000

/-! How long all is. -/
theorem fW_dl {D sh : List Int} {L : List (List Int)} {Kd Ks n k : Nat} (hD : Dl D Kd) (hL : Mdl L Kd) (hs : Dl sh Ks) : (digs (fW D sh L n k).natAbs).length ≤ Ks + Kd + k + 1 := by
 have h1 : (digs (sh.getD k 0 * D.getD (n - 1 - k + 1) 0).natAbs).length ≤ Ks + Kd + k := Nat.le_trans (dl_mul (dl_getD hs _) (dl_getD hD _)) (by omega)
 have h2 := sumZ_len (fbL_dl hs hL n (n - 1 - k) k) k
 rw [List.take_of_length_le (by rw [fbL_len]; omega)] at h2
 exact dl_add h1 h2
end Go.Proofs.Ytoeopdmaogmjhaa

/-
 Package aim: the struct that says where a suffix leads, and the pointer at its aim.
-/
namespace Go.Proofs.Ytoeopdmaogmjhaa
open Go Go.RowKit Nt
set_option linter.unusedSimpArgs false
set_option linter.unusedVariables false
set_option maxRecDepth 20000

theorem strct_spot : Strct 54 8 := ⟨⟨_, Try.underlying54, rfl⟩, by kernel_rfl⟩
abbrev ZSP : Value := .agg #[.pointer none, .slice none 0 0, .bool false, .slice none 0 0, .bool false, .slice none 0 0, .bool false, .slice none 0 0]
theorem shp_s8 : Shp 8 (Is ZSP) := fun u w h => ⟨_, h, rfl, by simp [Value.oneCell']⟩
theorem alloc_spot (ρ : Operand → Value) (o : Oper) (w : World) : (execOp ρ { o with op := .alloc 54 }).run Try.prog w = .ok (.value (.pointer (some ⟨w.heap.size, 0, none⟩))) (w.alloc (.cells (ZSP).cells 54 (0, 0))) := by
  unfold execOp
  go_simp
theorem box_spot {φ : Pr} (h : Shp 8 φ) (ρ : Operand → Value) (o : Oper) (x : Operand) (w : World) (hφ : φ (ρ x) w) : (execOp ρ { o with op := .box 54 x }).run Try.prog w = .ok (.value (.pointer (some ⟨w.heap.size, 0, none⟩))) (w.alloc (.cells (ρ x).cells 54 (0, 0))) := by
  obtain ⟨cs, e, h1, h2⟩ := h _ _ hφ
  unfold execOp
  rw [e]
  go_simp
theorem part_spot0 (ρ : Operand → Value) (o : Oper) (x : Operand) (w : World) (b f : Nat) (h : ρ x = .pointer (some ⟨b, f, none⟩)) : (execOp ρ { o with op := .fieldAddr 54 x 0 }).run Try.prog w = .ok (.value (.pointer (some ⟨b, f, none⟩))) w := by
  unfold execOp
  go_simp
theorem part_spot1 (ρ : Operand → Value) (o : Oper) (x : Operand) (w : World) (b f : Nat) (h : ρ x = .pointer (some ⟨b, f, none⟩)) : (execOp ρ { o with op := .fieldAddr 54 x 1 }).run Try.prog w = .ok (.value (.pointer (some ⟨b, f + 1, none⟩))) w := by
  unfold execOp
  go_simp
theorem part_spot2 (ρ : Operand → Value) (o : Oper) (x : Operand) (w : World) (b f : Nat) (h : ρ x = .pointer (some ⟨b, f, none⟩)) : (execOp ρ { o with op := .fieldAddr 54 x 2 }).run Try.prog w = .ok (.value (.pointer (some ⟨b, f + 2, none⟩))) w := by
  unfold execOp
  go_simp
theorem part_spot3 (ρ : Operand → Value) (o : Oper) (x : Operand) (w : World) (b f : Nat) (h : ρ x = .pointer (some ⟨b, f, none⟩)) : (execOp ρ { o with op := .fieldAddr 54 x 3 }).run Try.prog w = .ok (.value (.pointer (some ⟨b, f + 4, none⟩))) w := by
  unfold execOp
  go_simp
theorem part_spot4 (ρ : Operand → Value) (o : Oper) (x : Operand) (w : World) (b f : Nat) (h : ρ x = .pointer (some ⟨b, f, none⟩)) : (execOp ρ { o with op := .fieldAddr 54 x 4 }).run Try.prog w = .ok (.value (.pointer (some ⟨b, f + 6, none⟩))) w := by
  unfold execOp
  go_simp
/-- It is a pointer. -/
def isPt (v : Value) : Prop := ∃ b k, v = .pointer (some ⟨b, k, none⟩)
theorem ldr_aimp : Ldr 52 1 := fun ρ o x w b k u hu hc hx => by
  obtain ⟨e, h1⟩ := celv1 hu
  have h2 : w.cell? ⟨b, k, none⟩ = some u := hc 0 u (by rw [e]; rfl)
  clear hc hu e
  unfold execOp
  go_simp
/-- The aim's pointer: this very one; the data's lists, the target's list, the denominator. -/
abbrev AP (pa : Value) (nD nL nT K : Nat) (D : List Int) (L : List (List Int)) (τ : List Int) (dn : Int) : Pr := PI pa (AtE 5 (AM (Vv nD D K) (Mv nL L K) (Vv nT τ K) (Zv dn K)))
theorem ap_at {pa : Value} {nD nL nT K : Nat} {D : List Int} {L : List (List Int)} {τ : List Int} {dn : Int} : ∀ v w, AP pa nD nL nT K D L τ dn v w → AtE 5 (AM (Vv nD D K) (Mv nL L K) (Vv nT τ K) (Zv dn K)) v w := fun v w h => h.2
theorem ap_pt {pa : Value} {nD nL nT K : Nat} {D : List Int} {L : List (List Int)} {τ : List Int} {dn : Int} : ∀ v w, AP pa nD nL nT K D L τ dn v w → isPt v := fun v w h => by obtain ⟨b, o, u, e, _⟩ := h.2; exact ⟨b, o, e⟩
theorem ap_is {pa : Value} {φ : Pr} : ∀ v w, PI pa φ v w → Is pa v w := fun v w h => h.1
theorem am_p0 {pd pl pt pz : Pr} : ∀ u w, u.cells.size = 5 → AM pd pl pt pz u w → ∃ p, (∀ (j : Nat) y, p.cells[j]? = some y → u.cells[0 + j]? = some y) ∧ p.cells.size = 2 ∧ SF [pd, pl] p w := by
 rintro u w _ ⟨x, y, t, p, q, rfl, h, a, b, _, _⟩
 have h' : x.oneCell' = true ∧ y.oneCell' = true := by simp at h; exact ⟨h.1, h.2.1⟩
 refine ⟨.agg #[x, y], fun j z hz => ?_, rfl, _, rfl, rfl, by simp [h'], fun f r hr => ?_⟩
 ·match j, hz with
  | 0, hz => exact hz
  | 1, hz => exact hz
  | j + 2, hz => simp [Value.cells] at hz
 ·match f, hr with
  | 0, hr => simp at hr; subst hr; exact ⟨_, rfl, a⟩
  | 1, hr => simp at hr; subst hr; exact ⟨_, rfl, b⟩
theorem am_p1 {pd pl pt pz : Pr} : ∀ u w, u.cells.size = 5 → AM pd pl pt pz u w → ∃ p, (∀ (j : Nat) y, p.cells[j]? = some y → u.cells[2 + j]? = some y) ∧ p.cells.size = 1 ∧ pt p w := by
  rintro u w _ ⟨x, y, t, p, q, rfl, h, _, _, a, _⟩
  have h' : t.oneCell' = true := by simp at h; exact h.2.2.1
  have e : t.cells = #[t] := by cases t <;> first | rfl | simp [Value.oneCell'] at h'
  refine ⟨t, fun j z hz => ?_, by rw [e]; rfl, a⟩
  rw [e] at hz
  match j, hz with
  | 0, hz => exact hz
  | j + 1, hz => simp at hz
theorem am_p2 {pd pl pt pz : Pr} : ∀ u w, u.cells.size = 5 → AM pd pl pt pz u w → ∃ p, (∀ (j : Nat) y, p.cells[j]? = some y → u.cells[3 + j]? = some y) ∧ p.cells.size = 2 ∧ pz p w := by
 rintro u w _ ⟨x, y, t, p, q, rfl, _, _, _, _, a⟩
 refine ⟨.agg #[p, q], fun j z hz => ?_, rfl, a⟩
 match j, hz with
 | 0, hz => exact hz
 | 1, hz => exact hz
 | j + 2, hz => simp [Value.cells] at hz
theorem sf_pp {pd pl : Pr} {f : Nat} {φ : Pr} (hf : ([pd, pl] : List Pr)[f]? = some φ) : ∀ u w, u.cells.size = 2 → SF [pd, pl] u w → ∃ p, (∀ (j : Nat) y, p.cells[j]? = some y → u.cells[f + j]? = some y) ∧ p.cells.size = 1 ∧ φ p w := by
  rintro u w _ ⟨cs, rfl, h1, h2, h3⟩
  obtain ⟨x, hx, hφ⟩ := h3 f φ hf
  have h' : x.oneCell' = true := by
    rw [Array.all_eq_true_iff_forall_mem] at h2
    exact h2 x (Array.mem_of_getElem? hx)
  have e : x.cells = #[x] := by cases x <;> first | rfl | simp [Value.oneCell'] at h'
  refine ⟨x, fun j z hz => ?_, by rw [e]; rfl, hφ⟩
  rw [e] at hz
  match j, hz with
  | 0, hz => simp at hz; subst hz; exact hx
  | j + 1, hz => simp at hz
theorem part_aimD (ρ : Operand → Value) (x : Operand) (o : Oper) (w : World) (b k : Nat) (h : ρ x = .pointer (some ⟨b, k, none⟩)) : (execOp ρ { o with op := .fieldAddr 96 x 0 }).run Try.prog w = .ok (.value (.pointer (some ⟨b, k + 0, none⟩))) w := part_aim0 ρ o x w b k h
theorem part_gsoD (ρ : Operand → Value) (x : Operand) (o : Oper) (w : World) (b k : Nat) (h : ρ x = .pointer (some ⟨b, k, none⟩)) : (execOp ρ { o with op := .fieldAddr 25 x 0 }).run Try.prog w = .ok (.value (.pointer (some ⟨b, k + 0, none⟩))) w := part_gso0 ρ o x w b k h
/-- Where a suffix leads: the aim, the shifts, what is behind, numerator, what gathers. -/
abbrev SP (pa ps pb pn pr : Pr) : Pr := ST 8 [(0, 1, pa), (1, 1, ps), (2, 2, pb), (4, 2, pn), (6, 2, pr)]
abbrev SPN (pa ps pb pn pr : Nat → Pr) : Nat → Pr := STN 8 [(0, 1, pa), (1, 1, ps), (2, 2, pb), (4, 2, pn), (6, 2, pr)]
theorem fresh_sp {pa ps pb pn pr : Nat → Pr} (h1 : Fresh pa) (h2 : Fresh ps) (h3 : Fresh pb) (h4 : Fresh pn) (h5 : Fresh pr) : Fresh (SPN pa ps pb pn pr) := fresh_st fun q hq => by
 simp only [List.mem_cons, List.not_mem_nil, or_false] at hq
 rcases hq with rfl | rfl | rfl | rfl | rfl
 ·exact h1
 ·exact h2
 ·exact h3
 ·exact h4
 ·exact h5
theorem sp_imp {pa ps pb pn pr pa' ps' pb' pn' pr' : Pr} (h1 : ∀ v w, pa v w → pa' v w) (h2 : ∀ v w, ps v w → ps' v w) (h3 : ∀ v w, pb v w → pb' v w) (h4 : ∀ v w, pn v w → pn' v w) (h5 : ∀ v w, pr v w → pr' v w) : ∀ v w, SP pa ps pb pn pr v w → SP pa' ps' pb' pn' pr' v w := st_imp fun k p hk => by
 match k, hk with
 | 0, hk => simp at hk; subst hk; exact ⟨_, rfl, h1⟩
 | 1, hk => simp at hk; subst hk; exact ⟨_, rfl, h2⟩
 | 2, hk => simp at hk; subst hk; exact ⟨_, rfl, h3⟩
 | 3, hk => simp at hk; subst hk; exact ⟨_, rfl, h4⟩
 | 4, hk => simp at hk; subst hk; exact ⟨_, rfl, h5⟩
theorem all8 {a b c d e f g h : Value} (h0 : a.oneCell' = true) (h1 : b.oneCell' = true) (h2 : c.oneCell' = true) (h3 : d.oneCell' = true) (h4 : e.oneCell' = true) (h5 : f.oneCell' = true) (h6 : g.oneCell' = true) (h7 : h.oneCell' = true) : (#[a, b, c, d, e, f, g, h] : Array Value).all (·.oneCell') = true := by
 simp [h0, h1, h2, h3, h4, h5, h6, h7]
theorem sp_mk {x s b0 b1 n0 n1 r0 r1 : Value} {pa ps pb pn pr : Pr} {w : World} (ho : (#[x, s, b0, b1, n0, n1, r0, r1] : Array Value).all (·.oneCell') = true) (h1 : pa x w) (h2 : ps s w) (h3 : pb (.agg #[b0, b1]) w) (h4 : pn (.agg #[n0, n1]) w) (h5 : pr (.agg #[r0, r1]) w) : SP pa ps pb pn pr (.agg #[x, s, b0, b1, n0, n1, r0, r1]) w := by
 refine ⟨_, rfl, rfl, ho, fun k p hk => ?_⟩
 match k, hk with
 | 0, hk => simp at hk; subst hk; exact h1
 | 1, hk => simp at hk; subst hk; exact h2
 | 2, hk => simp at hk; subst hk; exact h3
 | 3, hk => simp at hk; subst hk; exact h4
 | 4, hk => simp at hk; subst hk; exact h5
section
variable {ops : Array Oper} {l : List Kd} {bx : Bxs} {sl : List (Tmp × Pr)} {i : Nat} {o : Oper} {Q : Exit → Act → World → Prop} {a0 : Act} {n : Nat} {w0 : World}
theorem owe_build_sp0 {x y : Operand} {φ χ : Pr} (ho : ops[i]? = some o) (hw : Wants ops l bx sl i o) (hop : o.op = .build 54 #[(0, x), (4, y)]) (hx : Opnd ops l bx sl i x φ) (hp : ∀ v w, φ v w → isPt v) (hy : Opnd ops l bx sl i y χ) (hS : Shp 2 χ) (hk : kdAt l i = .val (SP φ (Is (.slice none 0 0)) zI zI χ)) : Owed Try.prog ops Q l bx sl a0 n w0 i :=
  owe_val ho hw hk fun vs B a w c => by
    have h1 := hx a0 n w0 vs B a w c
    have h2 := hy a0 n w0 vs B a w c
    obtain ⟨b, k, e1⟩ := hp _ _ h1.now
    obtain ⟨ds, e2, d1, d2⟩ := hS _ _ h2.now
    match ds, d1, e2, d2 with
    | ⟨[z0, z1]⟩, _, e2, d2 =>
      have d3 : z0.oneCell' = true ∧ z1.oneCell' = true := by simpa using d2
      refine ⟨.agg #[a.eval x, .slice none 0 0, .bool false, .slice none 0 0, .bool false, .slice none 0 0, z0, z1], ?_, fun w' e' => sp_mk (by rw [e1]; exact all8 rfl rfl rfl rfl rfl rfl d3.1 d3.2) (h1 w' e') rfl rfl rfl (e2 ▸ h2 w' e')⟩
      unfold execOp
      rw [hop]
      clear h1 h2 hx hy d2 c
      generalize a.eval = ρ at e1 e2
      obtain ⟨d4, d5⟩ := d3
      go_simp
theorem owe_build_sp4 {x y z t : Operand} {φ ψ χ χ' : Pr} (ho : ops[i]? = some o) (hw : Wants ops l bx sl i o) (hop : o.op = .build 54 #[(0, x), (1, y), (3, z), (4, t)]) (hx : Opnd ops l bx sl i x φ) (hp : ∀ v w, φ v w → isPt v) (hy : Opnd ops l bx sl i y ψ) (hs : ∀ v w, ψ v w → ∃ p m c, v = .slice p m c) (hz : Opnd ops l bx sl i z χ) (hS : Shp 2 χ) (ht : Opnd ops l bx sl i t χ') (hS' : Shp 2 χ') (hk : kdAt l i = .val (SP φ ψ zI χ χ')) : Owed Try.prog ops Q l bx sl a0 n w0 i :=
  owe_val ho hw hk fun vs B a w c => by
    have h1 := hx a0 n w0 vs B a w c
    have h2 := hy a0 n w0 vs B a w c
    have h3 := hz a0 n w0 vs B a w c
    have h4 := ht a0 n w0 vs B a w c
    obtain ⟨b, k, e1⟩ := hp _ _ h1.now
    obtain ⟨p, m, cc, e2⟩ := hs _ _ h2.now
    obtain ⟨ds, e3, d1, d2⟩ := hS _ _ h3.now
    obtain ⟨fs, e4, f1, f2⟩ := hS' _ _ h4.now
    match ds, d1, e3, d2 with
    | ⟨[z0, z1]⟩, _, e3, d2 =>
      match fs, f1, e4, f2 with
      | ⟨[y0, y1]⟩, _, e4, f2 =>
        have d3 : z0.oneCell' = true ∧ z1.oneCell' = true := by simpa using d2
        have f3 : y0.oneCell' = true ∧ y1.oneCell' = true := by simpa using f2
        refine ⟨.agg #[a.eval x, a.eval y, .bool false, .slice none 0 0, z0, z1, y0, y1], ?_, fun w' e' => sp_mk (by rw [e1, e2]; exact all8 rfl rfl rfl rfl d3.1 d3.2 f3.1 f3.2) (h1 w' e') (h2 w' e') rfl (e3 ▸ h3 w' e') (e4 ▸ h4 w' e')⟩
        unfold execOp
        rw [hop]
        clear h1 h2 h3 h4 hx hy hz ht d2 f2 c
        generalize a.eval = ρ at e1 e2 e3 e4
        obtain ⟨d4, d5⟩ := d3
        obtain ⟨f4, f5⟩ := f3
        go_simp
/-- The aim is put into a block of its own. -/
theorem owe_boxaim {x : Operand} {φ : Pr} (ho : ops[i]? = some o) (hw : Wants ops l bx sl i o) (hop : o.op = .box 96 x) (hx : Opnd ops l bx sl i x φ) (hS : Shp 5 φ) (hk : kdAt l i = .val (fun v w => AtE 5 φ v w ∧ ∀ b k, v = .pointer (some ⟨b, k, none⟩) → w0.heap.size ≤ b)) : Owed Try.prog ops Q l bx sl a0 n w0 i :=
 owe_grow ho hw hk fun vs B a w c => by
  have h1 := hx a0 n w0 vs B a w c
  have hr := box_aim hS a.eval o x w h1.now
  have hb : Below w.heap.size w (w.alloc (.cells (a.eval x).cells 96 (0, 0))) := (Below.refl _ _).alloc (Nat.le_refl _) _
  refine ⟨_, _, ?_, hb, fun w'' e'' => ⟨⟨w.heap.size, 0, a.eval x, rfl, fun j y hy => ?_, ?_, ?_⟩, fun b k e => by cases e; exact c.lo⟩⟩
  ·rw [← hr]
   unfold execOp
   rw [hop]
  ·have hblk : w''.heap[w.heap.size]? = some (.cells (a.eval x).cells 96 (0, 0)) := by
    rw [e''.block w.heap.size (Array.getElem?_eq_some_iff.1 (heap_alloc_last w _)).1 (fun hB => by have := (c.bnd _ hB).2; omega)]
    exact heap_alloc_last _ _
   rw [Nat.zero_add, cell_of hblk]
   exact hy
  ·obtain ⟨cs, e, h2, _⟩ := hS _ _ h1.now
   rw [e]
   exact h2
  ·exact h1 w'' ⟨e''.os.trans hb.os, e''.tape.trans hb.tape, e''.output.trans hb.output, Nat.le_trans hb.size e''.size, fun k hk hn => (e''.block k (Nat.lt_of_lt_of_le hk hb.size) hn).trans (hb.block k hk)⟩
end
end Go.Proofs.Ytoeopdmaogmjhaa

/-
 Package aim: Rows, next, shift; Left, row, sum of a spot.
-/
namespace Go.Proofs.Ytoeopdmaogmjhaa
open Go Go.RowKit Nt
set_option linter.unusedSimpArgs false
set_option linter.unusedVariables false
set_option maxRecDepth 20000

theorem ap_dl {pa u : Value} {nD nL nT K : Nat} {D : List Int} {L : List (List Int)} {τ : List Int} {dn : Int} {w : World} (h : AP pa nD nL nT K D L τ dn u w) : Dl D K ∧ Mdl L K ∧ Dl τ K ∧ (digs dn.natAbs).length ≤ K := by
 obtain ⟨_, b, o, v, _, _, _, h'⟩ := h
 exact am_mdl h'
theorem sp_at {pa ps pb pn pr : Pr} {u : Value} {w : World} (h : SP pa ps pb pn pr u w) : ∃ a s b n r : Value, pa a w ∧ ps s w ∧ pb b w ∧ pn n w ∧ pr r w := by
 obtain ⟨cs, _, _, _, hp⟩ := h
 exact ⟨_, _, _, _, _, hp 0 _ rfl, hp 1 _ rfl, hp 2 _ rfl, hp 3 _ rfl, hp 4 _ rfl⟩
theorem fbL_congr {sh sh' : List Int} {L : List (List Int)} {n i : Nat} : ∀ {k : Nat}, (∀ j, j < k → sh.getD j 0 = sh'.getD j 0) → fbL sh L n i k = fbL sh' L n i k
 | 0, _ => rfl
 | k + 1, h => by rw [fbL, fbL, fbL_congr (fun j hj => h j (by omega)), h k (by omega)]
/-- What is behind the next row, nothing if there is none. -/
def fB (sh : List Int) (L : List (List Int)) (n k : Nat) : Int := if k = n then 0 else sumZ (fbL sh L n (n - 1 - k) k)
theorem zn_of0 {f : Nat} {args : Array Value} {w : World} (h : Calls Try.prog f args w (Gives (IS (.agg #[.bool false, .slice none 0 0])) w)) : Calls Try.prog f args w (Gives (ZN 0) w) := h.mono fun e w' ⟨v, e1, h1, h2⟩ => ⟨v, e1, h1, zero_zn _ _ h2⟩

set_option maxHeartbeats 400000 in
theorem aro_w (w : World) (pa : Value) (nD nL nT K : Nat) (D : List Int) (L : List (List Int)) (τ : List Int) (dn : Int) (hD : nD ≤ 1048577) (hL : nL ≤ 1048576) (hT : nT ≤ 1048576) (hK : K ≤ 16777216) (lD : D.length = nD) (lL : L.length = nL) (lT : τ.length = nT) (ha : Hs w (AP pa nD nL nT K D L τ dn) pa) :
  Calls Try.prog 68 #[pa] w (Gives (IS (.int .i64 ((nL : Nat) : Int))) w) := by
 refine calls_sta (sl := [(0, (AP pa nD nL nT K D L τ dn))]) Try.func68 rfl Try.ntmps68 (by simp) (args_cons rfl (ha) args_nil) ?_
 intro a0 S0
 refine wq [.val (iV 0)] [] [.inr 0] S0 ?_ ?_
 ·apply jj1
  ·exact mC
 intro _ a1 _ (S1 : Sta w 9 [] [(0, (AP pa nD nL nT K D L τ dn))] _ _ _)
 refine wq [.val (AP pa nD nL nT K D L τ dn), .val (AP pa nD nL nT K D L τ dn), .val (AtE 2 (SF [(Vv nD D K), (Mv nL L K)])), .val (AtE 1 (Mv nL L K)), .val (Mv nL L K), .val (iV (nL : Nat)), .val (iV (nL : Nat))] [] [.inl 6] S1 ?_ ?_
 ·repeat' refine And.intro ?_ ?_
  ·trivial
  ·exact mS 0 0
  ·exact owe_ptnil rfl wA rfl (oO 0 3) ap_pt rfl
  ·exact owe_apart (d := 0) rfl wA rfl ((oO 1 4).imp ap_at) (fun ρ w b k h => part_aimD ρ _ _ w b k h) am_p0 rfl
  ·exact owe_apart (d := 1) rfl wA rfl (oO 2 5) (fun ρ w b k h => part_gso1 ρ _ _ w b k h) (sf_pp (f := 1) rfl) rfl
  ·exact owe_aload rfl wA rfl ldr_mat1 (by decide) cel_ar (oO 3 6) rfl
  ·exact owe_len rfl wA rfl (oO 4 7) ar_len Try.underlying23 rfl
  ·exact mO 5 8
 intro _ a2 _ (S2 : Sta w 9 [] [(2, iV (nL : Nat))] _ _ _)
 refine wp_ret ?_
 exact end_one S2 rfl (res_tmp S2 0 2 rfl)

set_option maxHeartbeats 400000 in
theorem anx_w (w : World) (pa : Value) (nD nL nT K : Nat) (D : List Int) (L : List (List Int)) (τ : List Int) (dn : Int) (hD : nD ≤ 1048577) (hL : nL ≤ 1048576) (hT : nT ≤ 1048576) (hK : K ≤ 16777216) (lD : D.length = nD) (lL : L.length = nL) (lT : τ.length = nT) (ha : Hs w (AP pa nD nL nT K D L τ dn) pa) (m : Nat) (hm : m < nL) :
  Calls Try.prog 66 #[pa, .int .i64 (m : Nat)] w (Gives (IS (.int .i64 ((nL - 1 - m : Nat) : Int))) w) := by
 refine calls_sta (sl := [(0, (AP pa nD nL nT K D L τ dn)), (1, (iV (m : Nat)))]) Try.func66 rfl Try.ntmps66 (by simp) (args_cons rfl (ha) (args_cons rfl (is_has _) args_nil)) ?_
 intro a0 S0
 refine wq [.val (iV 0)] [] [.inr 0, .inr 1] S0 ?_ ?_
 ·apply jj1
  ·exact mC
 intro _ a1 _ (S1 : Sta w 10 [] [(0, (AP pa nD nL nT K D L τ dn)), (1, iV (m : Nat))] _ _ _)
 refine wq [.val (AP pa nD nL nT K D L τ dn), .val (iV ((nL : Nat) : Int)), .val (iV ((nL - 1 : Nat) : Int)), .val (iV (m : Nat)), .val (iV ((nL - 1 - m : Nat) : Int)), .val (iV ((nL - 1 - m : Nat) : Int))] [] [.inl 5] S1 ?_ ?_
 ·apply jj6
  ·exact mS 0 0
  ·exact ch1 wA (qO 0 5 rfl) (fresh_is _) (fun w u0 h0 => (by obtain rfl : u0 = pa := h0.now.1; exact aro_w w _ nD nL nT K D L τ dn hD hL hT hK lD lL lT h0))
  ·exact b_sub_int wA (oO 1 6) (opnd_const _)
  ·exact mS 1 1
  ·exact b_sub_int wA (oO 2 7) (oO 3 8)
  ·exact mO 4 9
 intro _ a2 _ (S2 : Sta w 10 [] [(4, iV ((nL - 1 - m : Nat) : Int))] _ _ _)
 refine wp_ret ?_
 exact end_one S2 rfl (res_tmp S2 0 4 rfl)

set_option maxHeartbeats 1000000 in
theorem ash_w (w : World) (pa : Value) (nD nL nT K : Nat) (D : List Int) (L : List (List Int)) (τ : List Int) (dn : Int) (hD : nD ≤ 1048577) (hL : nL ≤ 1048576) (hT : nT ≤ 1048576) (hK : K ≤ 16777216) (lD : D.length = nD) (lL : L.length = nL) (lT : τ.length = nT) (ha : Hs w (AP pa nD nL nT K D L τ dn) pa) (x : Value) (X : Int) (Kx i : Nat) (hx : Hs w (Zv X Kx) x) (hi : i < nT) (hKx : Kx ≤ 16777216) :
  Calls Try.prog 56 #[pa, x, .int .i64 (i : Nat)] w (Gives (ZN (X * dn - τ.getD i 0)) w) := by
 have hpd := ap_dl ha.now
 have hpx := zv_dlR hx.now
 have hq1 : (digs (X * dn).natAbs).length ≤ 33554432 := by rw [Int.natAbs_mul]; exact Nat.le_trans (digs_mul_len hpx hpd.2.2.2) (by omega)
 refine calls_sta (sl := [(0, (AP pa nD nL nT K D L τ dn)), (1, (Zv X Kx)), (2, (iV (i : Nat)))]) Try.func56 rfl Try.ntmps56 (by simp) (args_cons rfl (ha) (args_cons rfl (hx) (args_cons rfl (is_has _) args_nil))) ?_
 intro a0 S0
 refine wq [.new (.box 29 (Zv X Kx)), .new (.box 29 zI)] [.inl 0, .inl 1] [.inr 0, .inr 2] S0 ?_ ?_
 ·apply jj2
  ·exact owe_box rfl wA rfl (oS 1 1) rfl (fun ρ w h => box_int shp_zv ρ _ _ w h)
  ·exact owe_new rfl wA rfl rfl (fun ρ w => alloc_int ρ _ w)
 intro _ a1 _ (S1 : Sta w 21 [(4, (.box 29 (Zv X Kx))), (6, (.box 29 zI))] [(0, (AP pa nD nL nT K D L τ dn)), (2, iV (i : Nat))] _ _ _)
 refine wq [.val (Zv X Kx), .val (AP pa nD nL nT K D L τ dn), .val (AP pa nD nL nT K D L τ dn), .val (AtE 2 (Zv dn K)), .val (Zv dn K), .val ((ZN (X * dn)) w.heap.size), .val (AP pa nD nL nT K D L τ dn), .val (AP pa nD nL nT K D L τ dn), .val (AtE 1 (Vv nT τ K)), .val (Vv nT τ K), .val (iV (i : Nat)), .val (AtE 2 (Zv (τ.getD i 0) K)), .val (Zv (τ.getD i 0) K), .val ((ZN ((X * dn) - (τ.getD i 0))) w.heap.size), .put (.inl 6) (.box 29 ((ZN ((X * dn) - (τ.getD i 0))) w.heap.size))] [.inr 1] [] S1 ?_ ?_
 ·repeat' refine And.intro ?_ ?_
  ·trivial
  ·exact lod 0 wA (loads_of strct_int shp_zv)
  ·exact mS 0 0
  ·exact owe_ptnil rfl wA rfl (oO 1 8) ap_pt rfl
  ·exact owe_apart (d := 3) rfl wA rfl ((oO 2 9).imp ap_at) (fun ρ w b k h => part_aim2 ρ _ _ w b k h) am_p2 rfl
  ·exact owe_aload rfl wA rfl ldr_int (by decide) (cel_shp (by decide) shp_zv) (oO 3 10) rfl
  ·exact cc2 wA (qO 0 7 rfl) (qO 4 11 rfl) (fresh_zn _) (fun w u v h1 h2 => g_zmul (by omega) w u v ((fun _ _ h => h) _ _ h1) ((fun _ _ h => h) _ _ h2))
  ·exact mS 0 0
  ·exact owe_ptnil rfl wA rfl (oO 6 13) ap_pt rfl
  ·exact owe_apart (d := 2) rfl wA rfl ((oO 7 14).imp ap_at) (fun ρ w b k h => part_aim1 ρ _ _ w b k h) am_p1 rfl
  ·exact owe_aload rfl wA rfl ldr_row1 (by decide) cel_vv (oO 8 15) rfl
  ·exact mS 1 2
  ·exact owe_aindex rfl wA rfl idx_ints (oO 9 16) (oO 10 17) (zv_at (by omega)) rfl
  ·exact owe_aload rfl wA rfl ldr_int (by decide) (cel_shp (by decide) shp_zv) (oO 11 18) rfl
  ·exact cc2 wA (qO 5 12 rfl) (qO 12 19 rfl) (fresh_zn _) (fun w u v h1 h2 => g_zsub (by omega) (by omega) w u v ((zn_zv hq1) _ _ h1) ((fun _ _ h => h) _ _ h2))
  ·exact owe_set rfl wA rfl (k := 1) rfl (by kernel_rfl) (oO 13 20) (stores_of strct_int shp_z0 shp_zn) rfl
 intro _ a2 _ (S2 : Sta w 21 [(6, (.box 29 ((ZN ((X * dn) - (τ.getD i 0))) w.heap.size)))] [] _ _ _)
 refine wp_ret ?_
 exact end_one S2 rfl (res_cell S2 0 6 rfl strct_int shp_zn)

set_option maxHeartbeats 400000 in
theorem slf_w (w : World) (pa : Value) (nD nL nT K : Nat) (D : List Int) (L : List (List Int)) (τ : List Int) (dn : Int) (hD : nD ≤ 1048577) (hL : nL ≤ 1048576) (hT : nT ≤ 1048576) (hK : K ≤ 16777216) (lD : D.length = nD) (lL : L.length = nL) (lT : τ.length = nT) (u : Value) (k Ks KB KN KR : Nat) (sh : List Int) (b N R : Int) (h : Hs w (SP (AP pa nD nL nT K D L τ dn) (Vv k sh Ks) (Zv b KB) (Zv N KN) (Zv R KR)) u) (hk : k ≤ nL) (ls : sh.length = k) :
  Calls Try.prog 58 #[u] w (Gives (IS (.int .i64 ((nL - k : Nat) : Int))) w) := by
 refine calls_sta (sl := [(0, (SP (AP pa nD nL nT K D L τ dn) (Vv k sh Ks) (Zv b KB) (Zv N KN) (Zv R KR)))]) Try.func58 rfl Try.ntmps58 (by simp) (args_cons rfl (h) args_nil) ?_
 intro a0 S0
 refine wq [.new (.box 54 (SP (AP pa nD nL nT K D L τ dn) (Vv k sh Ks) (Zv b KB) (Zv N KN) (Zv R KR))), .val (iV 0)] [.inl 0] [] S0 ?_ ?_
 ·apply jj2
  ·exact owe_box rfl wA rfl (oS 0 0) rfl (fun ρ w h => box_spot shp_st ρ _ _ w h)
  ·exact mC
 intro _ a1 _ (S1 : Sta w 10 [(1, (.box 54 (SP (AP pa nD nL nT K D L τ dn) (Vv k sh Ks) (Zv b KB) (Zv N KN) (Zv R KR))))] [] _ _ _)
 refine wq [.val (Part a1 1 0), .val (AP pa nD nL nT K D L τ dn), .val (iV ((nL : Nat) : Int)), .val (Part a1 1 1), .val (Vv k sh Ks), .val (iV (k : Nat)), .val (iV ((nL - k : Nat) : Int)), .val (iV ((nL - k : Nat) : Int))] [.inr 0] [.inl 7] S1 ?_ ?_
 ·repeat' refine And.intro ?_ ?_
  ·trivial
  ·exact owe_part rfl wA rfl (k := 0) rfl (by kernel_rfl) rfl (fun ρ w b h => part_spot0 ρ _ _ w b 0 h)
  ·exact owe_pload rfl wA rfl (oO 0 3) (k := 0) rfl (by kernel_rfl) rfl (fun ρ w b u h1 h2 h3 => pload_st ldr_aimp (k := 0) rfl (by decide) (by decide) ρ _ _ w b u h1 h2 h3)
  ·exact ch1 wA (qO 1 4 rfl) (fresh_is _) (fun w u0 h0 => (by obtain rfl : u0 = pa := h0.now.1; exact aro_w w _ nD nL nT K D L τ dn hD hL hT hK lD lL lT h0))
  ·exact owe_part rfl wA rfl (k := 0) rfl (by kernel_rfl) rfl (fun ρ w b h => part_spot1 ρ _ _ w b 0 h)
  ·exact owe_pload rfl wA rfl (oO 3 6) (k := 0) rfl (by kernel_rfl) rfl (fun ρ w b u h1 h2 h3 => pload_st ldr_row1 (k := 1) rfl (by decide) (by decide) ρ _ _ w b u h1 h2 h3)
  ·exact owe_len rfl wA rfl (oO 4 7) ar_len Try.underlying22 rfl
  ·exact b_sub_int wA (oO 2 5) (oO 5 8)
  ·exact mO 6 9
 intro _ a2 _ (S2 : Sta w 10 [(1, (.box 54 (SP (AP pa nD nL nT K D L τ dn) (Vv k sh Ks) (Zv b KB) (Zv N KN) (Zv R KR))))] [(2, iV ((nL - k : Nat) : Int))] _ _ _)
 refine wp_ret ?_
 exact end_one S2 rfl (res_tmp S2 0 2 rfl)

set_option maxHeartbeats 400000 in
theorem srw_w (w : World) (pa : Value) (nD nL nT K : Nat) (D : List Int) (L : List (List Int)) (τ : List Int) (dn : Int) (hD : nD ≤ 1048577) (hL : nL ≤ 1048576) (hT : nT ≤ 1048576) (hK : K ≤ 16777216) (lD : D.length = nD) (lL : L.length = nL) (lT : τ.length = nT) (u : Value) (k Ks KB KN KR : Nat) (sh : List Int) (b N R : Int) (h : Hs w (SP (AP pa nD nL nT K D L τ dn) (Vv k sh Ks) (Zv b KB) (Zv N KN) (Zv R KR)) u) (hk : k ≤ nL) (ls : sh.length = k) (z : Int) (hz : z = (nL : Int) - (k : Int) - 1) :
  Calls Try.prog 36 #[u] w (Gives (IS (.int .i64 z)) w) := by
 refine calls_sta (sl := [(0, (SP (AP pa nD nL nT K D L τ dn) (Vv k sh Ks) (Zv b KB) (Zv N KN) (Zv R KR)))]) Try.func36 rfl Try.ntmps36 (by simp) (args_cons rfl (h) args_nil) ?_
 intro a0 S0
 refine wq [.new (.box 54 (SP (AP pa nD nL nT K D L τ dn) (Vv k sh Ks) (Zv b KB) (Zv N KN) (Zv R KR))), .val (iV 0)] [.inl 0] [] S0 ?_ ?_
 ·apply jj2
  ·exact owe_box rfl wA rfl (oS 0 0) rfl (fun ρ w h => box_spot shp_st ρ _ _ w h)
  ·exact mC
 intro _ a1 _ (S1 : Sta w 6 [(1, (.box 54 (SP (AP pa nD nL nT K D L τ dn) (Vv k sh Ks) (Zv b KB) (Zv N KN) (Zv R KR))))] [] _ _ _)
 refine wq [.val (SP (AP pa nD nL nT K D L τ dn) (Vv k sh Ks) (Zv b KB) (Zv N KN) (Zv R KR)), .val (iV ((nL - k : Nat) : Int)), .val (iV z), .val (iV z)] [.inr 0] [.inl 3] S1 ?_ ?_
 ·apply jj4
  ·exact lod 0 wA (loads_of strct_spot shp_st)
  ·exact ch1 wA (qO 0 3 rfl) (fresh_is _) (fun w u0 h0 => (slf_w w pa nD nL nT K D L τ dn hD hL hT hK lD lL lT u0 _ _ _ _ _ _ _ _ _ h0 hk ls))
  ·exact b_sub_int wA (oO 1 4) (opnd_const _)
  ·exact mO 2 5
 intro _ a2 _ (S2 : Sta w 6 [(1, (.box 54 (SP (AP pa nD nL nT K D L τ dn) (Vv k sh Ks) (Zv b KB) (Zv N KN) (Zv R KR))))] [(2, iV z)] _ _ _)
 refine wp_ret ?_
 exact end_one S2 rfl (res_tmp S2 0 2 rfl)

set_option maxHeartbeats 400000 in
theorem ssm_0 (w : World) (pa : Value) (nD nL nT K : Nat) (D : List Int) (L : List (List Int)) (τ : List Int) (dn : Int) (hD : nD ≤ 1048577) (hL : nL ≤ 1048576) (hT : nT ≤ 1048576) (hK : K ≤ 16777216) (lD : D.length = nD) (lL : L.length = nL) (lT : τ.length = nT) (u : Value) (k Ks KB KN KR : Nat) (sh : List Int) (b N R : Int) (h : Hs w (SP (AP pa nD nL nT K D L τ dn) (Vv k sh Ks) (Zv b KB) (Zv N KN) (Zv R KR)) u) (hk : k ≤ nL) (ls : sh.length = k) (e : k = nL) :
  Calls Try.prog 57 #[u] w (Gives (IS (.agg #[.bool false, .slice none 0 0])) w) := by
 refine calls_sta (sl := [(0, (SP (AP pa nD nL nT K D L τ dn) (Vv k sh Ks) (Zv b KB) (Zv N KN) (Zv R KR)))]) Try.func57 rfl Try.ntmps57 (by simp) (args_cons rfl (h) args_nil) ?_
 intro a0 S0
 refine wq [.new (.box 54 (SP (AP pa nD nL nT K D L τ dn) (Vv k sh Ks) (Zv b KB) (Zv N KN) (Zv R KR))), .new (.box 29 zI)] [.inl 0, .inl 1] [] S0 ?_ ?_
 ·apply jj2
  ·exact owe_box rfl wA rfl (oS 0 0) rfl (fun ρ w h => box_spot shp_st ρ _ _ w h)
  ·exact owe_new rfl wA rfl rfl (fun ρ w => alloc_int ρ _ w)
 intro _ a1 _ (S1 : Sta w 46 [(1, (.box 54 (SP (AP pa nD nL nT K D L τ dn) (Vv k sh Ks) (Zv b KB) (Zv N KN) (Zv R KR)))), (2, (.box 29 zI))] [] _ _ _)
 refine wp_seq ?_
 refine wq [.val (SP (AP pa nD nL nT K D L τ dn) (Vv k sh Ks) (Zv b KB) (Zv N KN) (Zv R KR)), .val (iV ((nL - k : Nat) : Int)), kT] [.inr 0, .inr 1] [.inl 2] S1 ?_ ?_
 ·apply jj3
  ·exact lod 0 wA (loads_of strct_spot shp_st)
  ·exact ch1 wA (qO 0 6 rfl) (fresh_is _) (fun w u0 h0 => (slf_w w pa nD nL nT K D L τ dn hD hL hT hK lD lL lT u0 _ _ _ _ _ _ _ _ _ h0 hk ls))
  ·exact b_eql_int_t wA (oO 1 7) (opnd_const _)
 intro _ a2 _ (S2 : Sta w 46 [(1, (.box 54 (SP (AP pa nD nL nT K D L τ dn) (Vv k sh Ks) (Zv b KB) (Zv N KN) (Zv R KR)))), (2, (.box 29 zI))] [(8, bT)] _ _ _)
 refine wp_cond_true (S2.bool 0 8 rfl) ?_
 refine wq [.val zI, .put (.inl 2) (.box 29 zI)] [.inr 0, .inr 1] [] S2 ?_ ?_
 ·apply jj2
  ·exact owe_build_int rfl wA rfl rfl
  ·exact owe_set rfl wA rfl (k := 1) rfl (by kernel_rfl) (oO 0 9) (stores_of strct_int shp_z0 shp_z0) rfl
 intro _ a3 _ (S3 : Sta w 46 [(1, (.box 54 (SP (AP pa nD nL nT K D L τ dn) (Vv k sh Ks) (Zv b KB) (Zv N KN) (Zv R KR)))), (2, (.box 29 zI))] [] _ _ _)
 refine wp_ret (thenR ?_)
 exact end_one S3 rfl (res_cell S3 1 2 rfl strct_int shp_z0)

abbrev qwpaf0 (pa : Value) (nD : Nat) (nL : Nat) (nT : Nat) (K : Nat) (D : List Int) (L : List (List Int)) (τ : List Int) (dn : Int) (k : Nat) (Ks : Nat) (KB : Nat) (KN : Nat) (KR : Nat) (sh : List Int) (b : Int) (N : Int) (R : Int) : Rk := .box 54 (SP (AP pa nD nL nT K D L τ dn) (Vv k sh Ks) (Zv b KB) (Zv N KN) (Zv R KR))
abbrev qwpaf1  : Rk := .box 29 zI
abbrev qwpaf2 (w : World) (nL : Nat) (L : List (List Int)) (k : Nat) (sh : List Int) (k0 : Nat) : Rk := .row 29 2 k (CE 2 ((((fbL sh L nL (nL - 1 - k) k).map ZN).map (· w.heap.size)).take k0 ++ List.replicate (k - k0) zI))
abbrev qwpaf3 (w : World) (nL : Nat) (L : List (List Int)) (k : Nat) (sh : List Int) (k0 : Nat) : Rk := .row 29 2 k (CE 2 ((((fbL sh L nL (nL - 1 - k) k).map ZN).map (· w.heap.size)).take (k0 + 1) ++ List.replicate (k - (k0 + 1)) zI))
set_option maxHeartbeats 2000000 in
theorem ssm_w (w : World) (pa : Value) (nD nL nT K : Nat) (D : List Int) (L : List (List Int)) (τ : List Int) (dn : Int) (hD : nD ≤ 1048577) (hL : nL ≤ 1048576) (hT : nT ≤ 1048576) (hK : K ≤ 16777216) (lD : D.length = nD) (lL : L.length = nL) (lT : τ.length = nT) (u : Value) (k Ks KB KN KR : Nat) (sh : List Int) (b N R : Int) (h : Hs w (SP (AP pa nD nL nT K D L τ dn) (Vv k sh Ks) (Zv b KB) (Zv N KN) (Zv R KR)) u) (hk : k ≤ nL) (ls : sh.length = k) (hlk : k < nL) (hKs : Ks ≤ 67108864) (hr : ∀ j, j < nL → (L.getD j []).length = j) :
  Calls Try.prog 57 #[u] w (Gives (ZN (sumZ (fbL sh L nL (nL - 1 - k) k))) w) := by
 obtain ⟨_, _, _, _, _, ha, hsv, _, _, _⟩ := sp_at h.now
 have hamd := ap_dl ha
 have hdx := vv_dl hsv
 refine calls_sta (sl := [(0, (SP (AP pa nD nL nT K D L τ dn) (Vv k sh Ks) (Zv b KB) (Zv N KN) (Zv R KR)))]) Try.func57 rfl Try.ntmps57 (by simp) (args_cons rfl (h) args_nil) ?_
 intro a0 S0
 refine wq [.new (qwpaf0 pa nD nL nT K D L τ dn k Ks KB KN KR sh b N R), .new (qwpaf1)] [.inl 0, .inl 1] [] S0 ?_ ?_
 ·apply jj2
  ·exact owe_box rfl wA rfl (oS 0 0) rfl (fun ρ w h => box_spot shp_st ρ _ _ w h)
  ·exact owe_new rfl wA rfl rfl (fun ρ w => alloc_int ρ _ w)
 intro _ a1 _ (S1 : Sta w 46 [(1, (qwpaf0 pa nD nL nT K D L τ dn k Ks KB KN KR sh b N R)), (2, (qwpaf1))] [] _ _ _)
 refine wp_seq ?_
 refine wq [.val (SP (AP pa nD nL nT K D L τ dn) (Vv k sh Ks) (Zv b KB) (Zv N KN) (Zv R KR)), .val (iV ((nL - k : Nat) : Int)), kF] [.inr 0, .inr 1] [.inl 2] S1 ?_ ?_
 ·apply jj3
  ·exact lod 0 wA (loads_of strct_spot shp_st)
  ·exact ch1 wA (qO 0 6 rfl) (fresh_is _) (fun w u0 h0 => (slf_w w pa nD nL nT K D L τ dn hD hL hT hK lD lL lT u0 _ _ _ _ _ _ _ _ _ h0 hk ls))
  ·exact b_eql_int_f wA (oO 1 7) (opnd_const _)
 intro _ a2 _ (S2 : Sta w 46 [(1, (qwpaf0 pa nD nL nT K D L τ dn k Ks KB KN KR sh b N R)), (2, (qwpaf1))] [(8, bF)] _ _ _)
 refine wp_cond_false (S2.bool 0 8 rfl) (wp_skip (thenN ?_))
 refine wq [.val (Part a2 1 1), .val (Vv k sh Ks), .val (iV (k : Nat)), .new (.row 29 2 k (CE 2 (List.replicate k zI))), .ref 3] [.inr 0, .inr 1, .inl 4] [] S2 ?_ ?_
 ·apply jj5
  ·exact owe_part rfl wA rfl (k := 0) rfl (by kernel_rfl) rfl (fun ρ w b h => part_spot1 ρ _ _ w b 0 h)
  ·exact owe_pload rfl wA rfl (oO 0 10) (k := 0) rfl (by kernel_rfl) rfl (fun ρ w b u h1 h2 h3 => pload_st ldr_row1 (k := 1) rfl (by decide) (by decide) ρ _ _ w b u h1 h2 h3)
  ·exact owe_len rfl wA rfl (oO 1 11) ar_len Try.underlying22 rfl
  ·exact owe_makeE rfl wA rfl Try.underlying22 infoInt celv_z0 (by decide) (oO 2 12) ⟨by omega, by unfold maxLen; omega⟩ rfl
  ·exact owe_ref 3 rfl wA (Or.inr rfl) (by kernel_rfl) rfl rfl
 intro _ a3 _ (S3 : Sta w 46 [(1, (qwpaf0 pa nD nL nT K D L τ dn k Ks KB KN KR sh b N R)), (2, (qwpaf1)), (3, (.row 29 2 k (CE 2 (List.replicate k zI))))] [] _ _ _)
 refine wp_seq ?_
 refine wq [.val (Part a3 1 1), .val (Vv k sh Ks), .val (iV (k : Nat)), .val (iV 0)] [.inr 0, .inr 1, .inr 2] [.inl 1, .inl 2, .inl 3] S3 ?_ ?_
 ·apply jj4
  ·exact owe_part rfl wA rfl (k := 0) rfl (by kernel_rfl) rfl (fun ρ w b h => part_spot1 ρ _ _ w b 0 h)
  ·exact owe_pload rfl wA rfl (oO 0 14) (k := 0) rfl (by kernel_rfl) rfl (fun ρ w b u h1 h2 h3 => pload_st ldr_row1 (k := 1) rfl (by decide) (by decide) ρ _ _ w b u h1 h2 h3)
  ·exact owe_len rfl wA rfl (oO 1 15) ar_len Try.underlying22 rfl
  ·exact mC
 intro B4 a4 _ (S4 : Sta w 46 [(1, (qwpaf0 pa nD nL nT K D L τ dn k Ks KB KN KR sh b N R)), (2, (qwpaf1)), (3, (.row 29 2 k (CE 2 (List.replicate k zI))))] [(15, Vv k sh Ks), (16, iV (k : Nat)), (17, iV 0)] _ _ _)
 refine wp_block ?_
 refine wp_loop_ghost (fun (k0 : Nat) a W => (k0 ≤ k) ∧ ∃ Bq, Sta w 46 [(1, (qwpaf0 pa nD nL nT K D L τ dn k Ks KB KN KR sh b N R)), (2, (qwpaf1)), (3, (qwpaf2 w nL L k sh k0))] [(15, Vv k sh Ks), (16, iV (k : Nat)), (17, iV (k0 : Nat))] Bq a W) (fun (k0 : Nat) => k - k0) ?_ 0 ⟨Nat.zero_le _, B4, S4.sub [0, 1, 2] [0, 1, 2]⟩
 rintro k0 a5 _ ⟨hcond, _, S5⟩
 by_cases hlt : k0 < k
 ·have hset := set_next (z := Is (.agg #[.bool false, .slice none 0 0])) (xs := ((fbL sh L nL (nL - 1 - k) k).map ZN).map (· w.heap.size)) (n := k) (by simp [fbL_len]) (map_get' (· w.heap.size) (map_get' ZN (fbL_get (sh := sh) (L := L) (n := nL) (i := nL - 1 - k) hlt)))
  have hrk := hr (nL - 1 - k0) (by omega)
  refine wq [kT] [.inr 0, .inr 1, .inr 2] [.inl 0, .inr 0, .inr 1, .inr 2] S5 ?_ ?_
  ·apply jj1
   ·exact b_lss_int_t wA (oS 2 17) (oS 1 16)
  intro B6 a6 W6 (S6 : Sta w 46 [(1, (qwpaf0 pa nD nL nT K D L τ dn k Ks KB KN KR sh b N R)), (2, (qwpaf1)), (3, (qwpaf2 w nL L k sh k0))] [(18, bT), (15, Vv k sh Ks), (16, iV (k : Nat)), (17, iV (k0 : Nat))] _ _ _)
  refine wp_seq (wp_cond_true (S6.bool 0 18 rfl) (wp_skip (thenN (wp_seq (wp_block ?_)))))
  refine wq [.val (iV (k0 : Nat)), .val (AtE 2 (Zv (sh.getD k0 0) Ks)), .val (Zv (sh.getD k0 0) Ks), .new (qwpaf1), .val (iV (k0 : Nat)), .put (.inr 3) (.box 29 (Zv (sh.getD k0 0) Ks))] [.inr 0, .inr 1, .inr 2, .inl 3] [.inl 4, .inr 1, .inr 2, .inr 3] S6 ?_ ?_
  ·apply jj6
   ·exact mS 3 17
   ·exact owe_aindex rfl wA rfl idx_ints (oS 1 15) (oS 3 17) (zv_at (by omega)) rfl
   ·exact owe_aload rfl wA rfl ldr_int (by decide) (cel_shp (by decide) shp_zv) (oO 1 20) rfl
   ·exact owe_new rfl wA rfl rfl (fun ρ w => alloc_int ρ _ w)
   ·exact mO 0 19
   ·exact owe_put 3 rfl wA rfl (by kernel_rfl) rfl (oO 2 21) (stores_of strct_int shp_z0 shp_zv) rfl
  intro B7 a7 W7 (S7 : Sta w 46 [(1, (qwpaf0 pa nD nL nT K D L τ dn k Ks KB KN KR sh b N R)), (2, (qwpaf1)), (3, (qwpaf2 w nL L k sh k0)), (5, (.box 29 (Zv (sh.getD k0 0) Ks)))] [(4, iV (k0 : Nat)), (15, Vv k sh Ks), (16, iV (k : Nat)), (17, iV (k0 : Nat))] _ _ _)
  refine wr [.val (Is (a7.eval (.tmp 3))), .val (iV (k0 : Nat)), .val (Zv (sh.getD k0 0) Ks), .val (Part a7 1 0), .val (AP pa nD nL nT K D L τ dn), .val (AP pa nD nL nT K D L τ dn), .val (AtE 2 (SF [(Vv nD D K), (Mv nL L K)])), .val (AtE 1 (Mv nL L K)), .val (Mv nL L K), .val (Part a7 1 0), .val (AP pa nD nL nT K D L τ dn), .val (iV (k0 : Nat)), .val (iV ((nL - 1 - k0 : Nat) : Int)), .val (AtE 1 (Vv (nL - 1 - k0) (L.getD (nL - 1 - k0) []) K)), .val (Vv (nL - 1 - k0) (L.getD (nL - 1 - k0) []) K), .val (SP (AP pa nD nL nT K D L τ dn) (Vv k sh Ks) (Zv b KB) (Zv N KN) (Zv R KR)), .val (iV ((nL - 1 - k : Nat) : Int)), .val (AtE 2 (Zv ((L.getD (nL - 1 - k0) []).getD (nL - 1 - k) 0) K)), .val (Zv ((L.getD (nL - 1 - k0) []).getD (nL - 1 - k) 0) K), .val ((ZN ((sh.getD k0 0) * ((L.getD (nL - 1 - k0) []).getD (nL - 1 - k) 0))) w.heap.size), .val (REt a7 3 (2 * k0)), .put (.inl 3) (qwpaf3 w nL L k sh k0)] [.inr 0, .inr 1, .inr 2] [.inr 1, .inr 2, .inr 3] S7 ?_ ?_
  ·repeat' refine And.intro ?_ ?_
   ·trivial
   ·exact owe_same rfl wA (Or.inl rfl) (by kernel_rfl) rfl
   ·exact mS 0 4
   ·exact lod 3 wA (loads_of strct_int shp_zv)
   ·exact owe_part rfl wA rfl (k := 0) rfl (by kernel_rfl) rfl (fun ρ w b h => part_spot0 ρ _ _ w b 0 h)
   ·exact owe_pload rfl wA rfl (oO 3 25) (k := 0) rfl (by kernel_rfl) rfl (fun ρ w b u h1 h2 h3 => pload_st ldr_aimp (k := 0) rfl (by decide) (by decide) ρ _ _ w b u h1 h2 h3)
   ·exact owe_ptnil rfl wA rfl (oO 4 26) ap_pt rfl
   ·exact owe_apart (d := 0) rfl wA rfl ((oO 5 27).imp ap_at) (fun ρ w b k h => part_aimD ρ _ _ w b k h) am_p0 rfl
   ·exact owe_apart (d := 1) rfl wA rfl (oO 6 28) (fun ρ w b k h => part_gso1 ρ _ _ w b k h) (sf_pp (f := 1) rfl) rfl
   ·exact owe_aload rfl wA rfl ldr_mat1 (by decide) cel_ar (oO 7 29) rfl
   ·exact owe_part rfl wA rfl (k := 0) rfl (by kernel_rfl) rfl (fun ρ w b h => part_spot0 ρ _ _ w b 0 h)
   ·exact owe_pload rfl wA rfl (oO 9 31) (k := 0) rfl (by kernel_rfl) rfl (fun ρ w b u h1 h2 h3 => pload_st ldr_aimp (k := 0) rfl (by decide) (by decide) ρ _ _ w b u h1 h2 h3)
   ·exact mS 0 4
   ·exact ch2 wA (qO 10 32 rfl) (qO 11 33 rfl) (fresh_is _) (fun w u0 u1 h0 h1 => (by obtain rfl : u0 = pa := h0.now.1; obtain rfl : u1 = _ := h1.now; exact anx_w w _ nD nL nT K D L τ dn hD hL hT hK lD lL lT h0 k0 (by omega)))
   ·exact owe_aindex rfl wA rfl idx_rows (oO 8 30) (oO 12 34) (by have q := vv_at (A := L) (K := K) (k := nL - 1 - k0) (by omega); rw [hrk] at q; exact q) rfl
   ·exact owe_aload rfl wA rfl ldr_row1 (by decide) cel_vv (oO 13 35) rfl
   ·exact lod 0 wA (loads_of strct_spot shp_st)
   ·exact ch1 wA (qO 15 37 rfl) (fresh_is _) (fun w u0 h0 => (srw_w w pa nD nL nT K D L τ dn hD hL hT hK lD lL lT u0 _ _ _ _ _ _ _ _ _ h0 hk ls ((nL - 1 - k : Nat) : Int) (by omega)))
   ·exact owe_aindex rfl wA rfl idx_ints (oO 14 36) (oO 16 38) (zv_at (by omega)) rfl
   ·exact owe_aload rfl wA rfl ldr_int (by decide) (cel_shp (by decide) shp_zv) (oO 17 39) rfl
   ·exact cc2 wA (qO 2 24 rfl) (qO 18 40 rfl) (fresh_zn _) (fun w u v h1 h2 => g_zmul (by omega) w u v ((fun _ _ h => h) _ _ h1) ((fun _ _ h => h) _ _ h2))
   ·exact owe_rindexE rfl wA rfl idx_ints (oO 0 22) (k := 2) rfl (by kernel_rfl) (oO 1 23) hlt rfl
   ·exact owe_rstoreE rfl wA rfl sto_int (by decide) (oO 20 42) (k := 2) rfl (by kernel_rfl) (oO 19 41) (cel_shp (by decide) shp_zn) hlt (by rw [hset]; rfl)
  intro B8 a8 W8 (S8 : Sta w 46 [(1, (qwpaf0 pa nD nL nT K D L τ dn k Ks KB KN KR sh b N R)), (2, (qwpaf1)), (3, (qwpaf3 w nL L k sh k0))] [(15, Vv k sh Ks), (16, iV (k : Nat)), (17, iV (k0 : Nat))] _ _ _)
  refine inBlkN (thenN ?_)
  refine wr [.val (iV (k0 + 1 : Nat)), .val (iV (k0 + 1 : Nat))] [.inr 0, .inr 1, .inr 2] [.inl 1, .inr 0, .inr 1] S8 ?_ ?_
  ·apply jj2
   ·exact b_add_int wA (oS 2 17) (opnd_const _)
   ·exact mO 0 43
  intro B9 a9 _ (S9 : Sta w 46 [(1, (qwpaf0 pa nD nL nT K D L τ dn k Ks KB KN KR sh b N R)), (2, (qwpaf1)), (3, (qwpaf3 w nL L k sh k0))] [(17, iV (k0 + 1 : Nat)), (15, Vv k sh Ks), (16, iV (k : Nat))] _ _ _)
  refine thenN ?_
  exact ⟨k0 + 1, ⟨by omega, B9, S9.sub [0, 1, 2] [1, 2, 0]⟩, by omega⟩
 ·have hend := fill_end (z := Is (.agg #[.bool false, .slice none 0 0])) (xs := ((fbL sh L nL (nL - 1 - k) k).map ZN).map (· w.heap.size)) (n := k) (k := k0) (by simp [fbL_len]) (by omega)
  refine wq [kF] [.inr 0, .inr 1, .inr 2] [.inl 0, .inr 0, .inr 1, .inr 2] S5 ?_ ?_
  ·apply jj1
   ·exact b_lss_int_f wA (oS 2 17) (oS 1 16)
  intro B6 a6 W6 (S6 : Sta w 46 [(1, (qwpaf0 pa nD nL nT K D L τ dn k Ks KB KN KR sh b N R)), (2, (qwpaf1)), (3, (qwpaf2 w nL L k sh k0))] [(18, bF), (15, Vv k sh Ks), (16, iV (k : Nat)), (17, iV (k0 : Nat))] _ _ _)
  refine wp_seq (wp_cond_false (S6.bool 0 18 rfl) (wp_exit (thenX (thenX (inBlkE (thenN ?_))))))
  obtain ⟨B7, S7⟩ : ∃ Bq, Sta w 46 [(1, (qwpaf0 pa nD nL nT K D L τ dn k Ks KB KN KR sh b N R)), (2, (qwpaf1))] [(3, ((VN k (fbL sh L nL (nL - 1 - k) k)) w.heap.size)), (18, bF), (15, Vv k sh Ks), (16, iV (k : Nat)), (17, iV (k0 : Nat))] Bq a6 W6 := ⟨_, S6.freeze 2 rfl (by simp) (fun v w' xs ho hc => row_lf (by decide) v w' xs ho (by rw [hend] at hc; exact hc))⟩
  obtain ⟨a7, W7, e1, e2⟩ : ∃ a W, a6 = a ∧ W6 = W := ⟨_, _, rfl, rfl⟩
  rw [e1, e2] at S7 ⊢
  clear e1 e2
  refine wq [.val ((VN k (fbL sh L nL (nL - 1 - k) k)) w.heap.size), .val ((ZN (sumZ (fbL sh L nL (nL - 1 - k) k))) w.heap.size), .put (.inl 2) (.box 29 ((ZN (sumZ (fbL sh L nL (nL - 1 - k) k))) w.heap.size))] [.inr 0, .inr 1] [.inr 0, .inr 2, .inr 3, .inr 4] S7 ?_ ?_
  ·apply jj3
   ·exact mS 0 3
   ·exact ch1 wA (qO 0 44 rfl) (fresh_zn _) (h_zsum (by omega) (fbL_len sh L nL _ _) (fun j z hz => Nat.le_trans (fbL_dl hdx hamd.2.1 nL _ _ j z hz) (by omega)))
   ·exact owe_set rfl wA rfl (k := 1) rfl (by kernel_rfl) (oO 1 45) (stores_of strct_int shp_z0 shp_zn) rfl
  intro B8 a8 W8 (S8 : Sta w 46 [(1, (qwpaf0 pa nD nL nT K D L τ dn k Ks KB KN KR sh b N R)), (2, (.box 29 ((ZN (sumZ (fbL sh L nL (nL - 1 - k) k))) w.heap.size)))] [(3, ((VN k (fbL sh L nL (nL - 1 - k) k)) w.heap.size)), (15, Vv k sh Ks), (16, iV (k : Nat)), (17, iV (k0 : Nat))] _ _ _)
  refine wp_ret ?_
  exact end_one S8 rfl (res_cell S8 1 2 rfl strct_int shp_zn)

theorem ssm_any (w : World) (pa : Value) (nD nL nT K : Nat) (D : List Int) (L : List (List Int)) (τ : List Int) (dn : Int) (hD : nD ≤ 1048577) (hL : nL ≤ 1048576) (hT : nT ≤ 1048576) (hK : K ≤ 16777216) (lD : D.length = nD) (lL : L.length = nL) (lT : τ.length = nT) (u : Value) (k Ks KB KN KR : Nat) (sh : List Int) (b N R : Int) (h : Hs w (SP (AP pa nD nL nT K D L τ dn) (Vv k sh Ks) (Zv b KB) (Zv N KN) (Zv R KR)) u) (hk : k ≤ nL) (ls : sh.length = k) (hKs : Ks ≤ 67108864) (hr : ∀ j, j < nL → (L.getD j []).length = j) : Calls Try.prog 57 #[u] w (Gives (ZN (fB sh L nL k)) w) := by
 by_cases e : k = nL
 ·rw [fB, if_pos e]
  exact zn_of0 (ssm_0 w pa nD nL nT K D L τ dn hD hL hT hK lD lL lT u k Ks KB KN KR sh b N R h hk ls e)
 ·rw [fB, if_neg e]
  exact ssm_w w pa nD nL nT K D L τ dn hD hL hT hK lD lL lT u k Ks KB KN KR sh b N R h hk ls (by omega) hKs hr

end Go.Proofs.Ytoeopdmaogmjhaa
