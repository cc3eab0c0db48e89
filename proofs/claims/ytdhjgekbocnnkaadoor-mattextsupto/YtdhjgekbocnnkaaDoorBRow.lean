/-
  Rows of bytes that a call grows: constants and texts appended; the text of such a row.
-/
import Derived.Test.YtdhjgekbocnnkaaDoorSetS
import Derived.Test.YtdhjgekbocnnkaaDoorVec
namespace Go.Proofs.YtdhjgekbocnnkaaDoor
open Go Go.RowKit Nt
set_option linter.unusedSimpArgs false
set_option linter.unusedVariables false
set_option maxRecDepth 20000

theorem infoB : (Tryd.prog.info? 5).map (fun i => (i.zero, i.size, i.bytes)) = some (some (.int .u8 0), 1, 1) := by kernel_rfl
theorem einf_b1 : EInf 5 1 1 := by
  obtain ⟨i0, hi, hz0, hz1, hz2⟩ := info_parts infoB
  exact ⟨⟨i0, _, hi, hz0, hz1, hz2, rfl⟩, by decide⟩
theorem bc_app (l m : List UInt8) : Lib.byteCells l ++ Lib.byteCells m = Lib.byteCells (l ++ m) := by simp [Lib.byteCells]

/-- Where the row lies behind an append of a text: where it lay, or in a new block. -/
theorem append_whereS {w : World} {lo t u ty e n : Nat} {i : TypeInfo} {v v' : Value} {w' : World} {xs : List Value} {s : ByteArray} (ht : Tryd.prog.underlying t = some (.slice e)) (hu : Tryd.prog.underlying u = some .string) (hi : Tryd.prog.info? e = some i) (hz : i.zero = some (.int .u8 0)) (hsize : i.size = 1) (hby : i.bytes = 1)
    (hown : w.ownsRow lo e 1 v n xs) (h63 : n + s.size ≤ maxLen) (hbytes : n + s.size ≤ 140737488355328)
    (hr : (Builtin.append_ #[t, u] ty #[v, .string s]).run Tryd.prog w = .ok v' w') (hown' : w'.ownsRow lo e 1 v' (n + s.size) (xs ++ Lib.strCells s)) (hnil : v' = .slice none 0 0 ↔ v = .slice none 0 0 ∧ s.size = 0) :
    ∀ b, vblock v' = some b → vblock v = some b ∨ (w.heap.size ≤ b ∧ b < w'.heap.size) := by
  intro b hb
  have hxl : xs.length = n := by simpa using hown.1
  have hlt : b < w'.heap.size := by
    rcases hown'.2 with ⟨rfl, _⟩ | ⟨g, cap, cur, rfl, _, hg, _⟩
    · simp [vblock] at hb
    · simp [vblock] at hb; subst hb; exact (Array.getElem?_eq_some_iff.1 hg).1
  rcases hown.2 with ⟨rfl, rfl⟩ | ⟨g, cap, cur, rfl, hbg, hg, hnc, hcm, hcs, htake⟩
  · by_cases hm : s.size = 0
    · rw [hnil.2 ⟨rfl, hm⟩] at hb
      simp [vblock] at hb
    · have h2 := run_append_nil_string (P := Tryd.prog) w t u ty e i (.int .u8 0) ht hu hi hz s (by omega) (by omega) (by rw [hby]; omega)
      rw [h2] at hr
      simp only [Result.ok.injEq] at hr
      rw [← hr.1] at hb
      simp [vblock] at hb
      exact Or.inr ⟨by omega, hlt⟩
  · by_cases hroom : n + s.size ≤ cap
    · have hcs' : cur.size = cap := by simpa using hcs
      have h2 := Lib.run_append_room_string (P := Tryd.prog) w t u ty e i ht hu hi hsize g n cap cur hg s hroom (by omega)
      rw [h2] at hr
      simp only [Result.ok.injEq] at hr
      rw [← hr.1] at hb
      exact Or.inl hb
    · have holds : ∀ j u, xs[j]? = some u → w.cell? ((⟨g, 0, none⟩ : Addr).add j) = some u := hown.cells (g := g) rfl
      have h2 := Lib.run_append_grow_string (P := Tryd.prog) w t u ty e i (.int .u8 0) ht hu hi hz ⟨g, 0, none⟩ n cap xs (by rw [hsize]; simpa using hxl) holds s (by omega) (by omega) (by rw [hby]; exact growslice_fits (by omega) (by omega))
      rw [h2] at hr
      simp only [Result.ok.injEq] at hr
      rw [← hr.1] at hb
      simp [vblock] at hb
      exact Or.inr ⟨by omega, hlt⟩

section
variable {ops : Array Oper} {l : List Kd} {bx : Bxs} {sl : List (Tmp × Pr)} {i : Nat} {o : Oper} {Q : Exit → Act → World → Prop} {a0 : Act} {n0 : Nat} {w0 : World}
/-- A text is appended to a row of bytes. -/
theorem owe_appendS {x y : Operand} {T U t k n m : Nat} {bs s : List UInt8} (ho : ops[i]? = some o) (hw : Wants ops l bx sl i o) (hop : o.op = .call { callee := .builtin .append, args := #[x, y], argTypes := #[T, U] })
    (hx : Opnd ops l bx sl i x (Is (a0.eval (.tmp t)))) (hb : bx[k]? = some (t, .row 5 1 n (EqL (Lib.byteCells bs)))) (hn : unturned ops l i (.inl t) = true) (hy : Opnd ops l bx sl i y (Is (str s))) (hT : Tryd.prog.underlying T = some (.slice 5)) (hU : Tryd.prog.underlying U = some .string)
    (hl : n + s.length ≤ 140737488355328) (hm : n + s.length = m) (hk : kdAt l i = .mov t (.row 5 1 m (EqL (Lib.byteCells (bs ++ s))))) : Owed Tryd.prog ops Q l bx sl a0 n0 w0 i := fun vs B a w c o' ho' => by
  subst hm
  obtain rfl : o = o' := Option.some.inj (ho.symm.trans ho')
  have hxv : a.eval x = a0.eval (.tmp t) := (hx a0 n0 w0 vs B a w c).now
  have hyv : a.eval y = .string ⟨s.toArray⟩ := (hy a0 n0 w0 vs B a w c).now
  obtain ⟨xs, hown, hB, hχ⟩ := c.box t _ (List.mem_of_getElem? hb) hn
  have hxs : xs = Lib.byteCells bs := hχ w (Ev.refl _ _)
  have hlo : w0.heap.size ≤ w.heap.size := c.lo
  have hsz : (⟨s.toArray⟩ : ByteArray).size = s.length := str_size s
  obtain ⟨i0, hi, hz0, hz1, hz2⟩ := info_parts infoB
  have hmx : n + (⟨s.toArray⟩ : ByteArray).size ≤ maxLen := by rw [hsz]; unfold maxLen; omega
  obtain ⟨v', w', hr, o1, o2, o3⟩ := Lib.run_append_own_string (P := Tryd.prog) w w0.heap.size T U o.type 5 i0 hT hU hi hz0 hz1 hz2 _ n xs hown ⟨s.toArray⟩ hmx (by rw [hsz]; exact hl) hlo
  have hwh := append_whereS hT hU hi hz0 hz1 hz2 hown hmx (by rw [hsz]; exact hl) hr o1 o3
  rw [hsz] at o1
  have hsc : Lib.strCells ⟨s.toArray⟩ = Lib.byteCells s := by simp [Lib.strCells, Lib.byteCells]
  rw [hsc, hxs, bc_app] at o1
  have hvb : vblock (a0.eval (.tmp t)) = (a0.eval (.tmp t)).ownBlock := vblock_own _ (fun ad ea => by
    rcases hown.2 with ⟨e', _⟩ | ⟨g', cap, cur, e', _⟩ <;> rw [e'] at ea <;> cases ea)
  have hc := chg_grown o2 hvb
  simp only [wpOp, ho]
  rw [if_pos (hw a0 n0 w0 vs B a w c)]
  refine Or.inl ?_
  unfold Oper.wp
  have h : (execOp a.eval o).run Tryd.prog w = .ok (.value v') w' := by
    unfold execOp
    rw [hop]
    simp only [resolve, invoke, builtin, Sem.run_bind, Sem.run_pure, Result.andThen_ok, List.map_toArray, List.map_cons, List.map_nil, hxv, hyv, hr]
  rw [h, Oper.upon_value]
  refine ⟨v', rfl, ?_⟩
  rw [hk]
  exact out_mov (List.mem_of_getElem? hb) rfl rfl hc hwh ⟨_, o1, fun b hb' => Or.inr hb', fun w'' e'' => rfl⟩

/-- A new slice of these bytes. -/
def Lit (bs : List UInt8) (lo : Nat) : Pr := fun v w => ∃ g, v = .slice (some ⟨g, 0, none⟩) bs.length bs.length ∧ lo ≤ g ∧ w.heap[g]? = some (.cells (Lib.byteCells bs).toArray 5 (0, 0))
theorem lit_src {bs : List UInt8} {lo m : Nat} (h : bs.length = m) (hm : m ≤ 64) : ∀ v w, Lit bs lo v w → Src 5 1 m (EqL (Lib.byteCells bs)) v w := by
  rintro v w ⟨g, rfl, h1, h2⟩
  refine ⟨g, bs.length, Lib.byteCells bs, by rw [h], ⟨by simp [Lib.byteCells, h], by omega, by unfold maxLen; omega⟩, h2, fun u hu => ?_, rfl⟩
  simp only [Lib.byteCells, List.mem_map] at hu
  obtain ⟨b, _, rfl⟩ := hu
  rfl
theorem owe_lit {T k : Nat} {xs : Array (Nat × Operand)} {bs : List UInt8} (ho : ops[i]? = some o) (hw : Wants ops l bx sl i o) (hop : o.op = .buildSlice T k xs) (hk : kdAt l i = .val (Lit bs w0.heap.size))
    (hr : ∀ (ρ : Operand → Value) (w : World), (∀ v, ρ (.const v) = v) → (execOp ρ { o with op := .buildSlice T k xs }).run Tryd.prog w = .ok (.value (.slice (some ⟨w.heap.size, 0, none⟩) bs.length bs.length)) (w.alloc (.cells (Lib.byteCells bs).toArray 5))) : Owed Tryd.prog ops Q l bx sl a0 n0 w0 i :=
  owe_grow ho hw hk fun vs B a w c => by
    have hb : Below w.heap.size w (w.alloc (.cells (Lib.byteCells bs).toArray 5)) := (Below.refl _ _).alloc (Nat.le_refl _) _
    refine ⟨.slice (some ⟨w.heap.size, 0, none⟩) bs.length bs.length, _, ?_, hb, fun w'' e'' => ?_⟩
    · rw [← hr a.eval w (fun v => rfl)]
      unfold execOp
      rw [hop]
    · refine ⟨w.heap.size, rfl, c.lo, ?_⟩
      rw [e''.block w.heap.size (Array.getElem?_eq_some_iff.1 (heap_alloc_last w _)).1 (fun hB => by have := (c.bnd _ hB).2; omega)]
      exact heap_alloc_last _ _

/-- The text of a row of bytes. -/
theorem owe_strB {x : Operand} {T U t k n : Nat} {bs : List UInt8} (ho : ops[i]? = some o) (hw : Wants ops l bx sl i o) (hop : o.op = .convert T U x)
    (hx : Opnd ops l bx sl i x (Is (a0.eval (.tmp t)))) (hb : bx[k]? = some (t, .row 5 1 n (EqL (Lib.byteCells bs)))) (hn : unturned ops l i (.inl t) = true) (hT : Tryd.prog.underlying T = some (.slice 5)) (hE : Tryd.prog.underlying 5 = some (.int .u8)) (hU : Tryd.prog.underlying U = some .string)
    (hk : kdAt l i = .val (Is (str bs))) : Owed Tryd.prog ops Q l bx sl a0 n0 w0 i :=
  owe_is ho hw hk fun vs B a w c => by
    have hxv : a.eval x = a0.eval (.tmp t) := (hx a0 n0 w0 vs B a w c).now
    obtain ⟨xs, ⟨hl, hown⟩, hB, hχ⟩ := c.box t _ (List.mem_of_getElem? hb) hn
    have hxs : xs = Lib.byteCells bs := hχ w (Ev.refl _ _)
    have hln : bs.length = n := by rw [hxs] at hl; simpa [Lib.byteCells] using hl
    have hc : (convert T U (a0.eval (.tmp t))).run Tryd.prog w = .ok (str bs) w := by
      rcases hown with ⟨e, h0⟩ | ⟨g, cap, cur, e, hlo, hg, hnc, hcm, hcs, htk⟩
      · rw [e, run_convert_bytes_string (P := Tryd.prog) w T U 5 none 0 0 hT hE hU]
        have : bs = [] := List.length_eq_zero_iff.1 (by omega)
        rw [this]
        rfl
      · rw [e, ← hln]
        refine run_convert_bytes_back (P := Tryd.prog) w T U 5 ⟨g, 0, none⟩ cap bs hT hE hU (fun j hj => ?_)
        rw [addr_add]
        have e2 : (cur.toList.take (n * 1))[j]? = some (.int .u8 (bs[j].toNat : Int)) := by rw [htk, hxs]; exact byteCells_get bs j hj
        rw [List.getElem?_take, if_pos (by omega)] at e2
        simp only [World.cell?, hg, Nat.zero_add]
        simpa using e2
    unfold execOp
    rw [hop]
    simp only [hxv, Sem.run_bind, hc, Result.andThen_ok, Sem.run_pure]
end
end Go.Proofs.YtdhjgekbocnnkaaDoor
