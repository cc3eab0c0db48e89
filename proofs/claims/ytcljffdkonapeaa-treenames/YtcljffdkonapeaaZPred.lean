/-
  What is said of numbers in the logic of statements; the machine's way with their boxes; the calls of nat, zint and the document in that form.
-/
import Derived.Test.YtcljffdkonapeaaSetO
import Derived.Test.YtcljffdkonapeaaSetZ
import Derived.Deep.MidRow
namespace Go.Proofs.Ytcljffdkonapeaa
open Go Go.RowKit Nt
set_option linter.unusedSimpArgs false
set_option linter.unusedVariables false

/-- Rows outside the boxes stay. -/
theorem sl_ev {B : Nat → Prop} {w w' : World} {p : Option Addr} {n c : Nat} {xs : List Nat} (h : Sl w p n c xs) (hB : ∀ b o, p = some ⟨b, o, none⟩ → b < w.heap.size → ¬ B b) (e : Ev B w w') : Sl w' p n c xs :=
  ⟨h.len, h.cap, h.max, h.nil, h.ok, fun i hi => by
    obtain ⟨b, o, e1, hc⟩ := h.lie i hi
    have hlt := cell_some_block hc
    exact ⟨b, o, e1, (World.cell?_of_block (w := w) (e.block b hlt (hB b o e1 hlt))).trans hc⟩⟩

/-- A number just as it came in. -/
def Zx (s : Bool) (p : Option Addr) (n c : Nat) (xs : List Nat) : Pr := fun v w => v = .agg #[.bool s, .slice p n c] ∧ Sl w p n c xs
/-- A number worth A, in whatever form, of at most k limbs. -/
def Zv (A : Int) (k : Nat) : Pr := fun v w => ∃ s p n c xs, v = .agg #[.bool s, .slice p n c] ∧ Sl w p n c xs ∧ sg s (val xs) = A ∧ n ≤ k
/-- A number in one form, its limbs in a new row. -/
def ZN (z : Int) : Nat → Pr := fun lo v w => ∃ r c, v = .agg #[.bool (ng z), .slice r (digs z.natAbs).length c] ∧ Sl w r (digs z.natAbs).length c (digs z.natAbs) ∧ ∀ b o, r = some ⟨b, o, none⟩ → lo ≤ b
theorem fresh_zn (z : Int) : Fresh (ZN z) :=
  ⟨fun lo lo' v w hl ⟨r, c, e, hs, hf⟩ => ⟨r, c, e, hs, fun b o h => Nat.le_trans hl (hf b o h)⟩,
   fun lo v w w' B hB ⟨r, c, e, hs, hf⟩ ev => ⟨r, c, e, sl_ev hs (fun b o e2 _ hb => by have := hB b hb; have := hf b o e2; omega) ev, hf⟩⟩
theorem zn_zv {z : Int} {lo k : Nat} (hk : (digs z.natAbs).length ≤ k) : ∀ v w, ZN z lo v w → Zv z k v w := fun v w ⟨r, c, e, h, _⟩ => ⟨_, _, _, _, _, e, h, by rw [val_digs, sg_sign], hk⟩
theorem is_has {B : Nat → Prop} {w : World} (u : Value) : Has B w (Is u) u := fun _ _ => rfl

/-! Boxes of structs. -/
/-- A struct of n cells. -/
def Shp (n : Nat) (φ : Pr) : Prop := ∀ u w, φ u w → ∃ cs : Array Value, u = .agg cs ∧ cs.size = n ∧ cs.all (·.oneCell') = true
/-- T is the type of such structs. -/
def Strct (T : TypeId) (n : Nat) : Prop := (∃ d, Try.prog.underlying T = some d ∧ d.isRow = true) ∧ (Try.prog.info? T).map (·.size) = some n
theorem range_of {w : World} {b : Nat} {cs : Array Value} {T : TypeId} (h : w.heap[b]? = some (.cells cs T (0, 0))) : w.rangeAt b 0 cs.toList := fun j v hv => by
  simp only [World.cell?, h, Nat.zero_add]
  simpa using hv
theorem there_of {w : World} {b n : Nat} {cs : Array Value} {T : TypeId} (h : w.heap[b]? = some (.cells cs T (0, 0))) (hn : cs.size = n) : w.there b 0 n := fun j hj => by
  refine ⟨?_, by simp [World.frozen?, h]⟩
  simp only [World.cell?, h, Nat.zero_add]
  simp [show j < cs.size from by omega]
theorem loads_of {T n : Nat} (hT : Strct T n) {φ : Pr} (h : Shp n φ) : Loads T φ := fun ρ w o x b u hφ hx hb hop => by
  obtain ⟨cs, rfl, hn, _⟩ := h u w hφ
  obtain ⟨⟨d, hu, hd⟩, hi⟩ := hT
  unfold execOp
  simp only [hop, hx, Sem.run_bind, run_loadAt_mid (P := Try.prog) w b 0 T cs.toList d (range_of hb) hu hd (by rw [hi]; simp [hn]), Result.andThen_ok, Sem.run_pure]
theorem setRow_twice (w : World) (b : Nat) (c d : Array Value) : (w.setRow b c).setRow b d = w.setRow b d := by
  unfold World.setRow
  simp only [World.mk.injEq, and_true, true_and]
  apply Array.ext
  · simp
  · intro i h1 h2
    simp only [Array.getElem_modify]
    by_cases e : b = i
    · simp only [e, if_true]
      cases w.heap[i]'(by simpa using h1) <;> rfl
    · simp [e]
def setsFrom (cur : Array Value) : Nat → List Value → Array Value
  | _, [] => cur
  | o, v :: r => setsFrom (cur.setIfInBounds o v) (o + 1) r
theorem setsFrom_get : ∀ (vs : List Value) (o : Nat) (cur : Array Value) (k : Nat), o + vs.length ≤ cur.size → (setsFrom cur o vs)[k]? = if o ≤ k ∧ k < o + vs.length then vs[k - o]? else cur[k]?
  | [], o, cur, k, h => by simp [setsFrom]; intro h1 h2; omega
  | v :: r, o, cur, k, h => by
    simp only [setsFrom]
    rw [setsFrom_get r (o + 1) _ k (by simp at h ⊢; omega)]
    simp only [List.length_cons] at h ⊢
    by_cases e : k = o
    · subst e
      rw [if_neg (by omega), if_pos (by omega)]
      simp [show k < cur.size from by omega]
    · by_cases e2 : o + 1 ≤ k ∧ k < o + 1 + r.length
      · rw [if_pos e2, if_pos (by omega), show k - o = (k - (o + 1)) + 1 from by omega]
        simp
      · rw [if_neg e2, if_neg (by omega), Array.getElem?_setIfInBounds_ne (Ne.symm e)]
theorem setCells_row {T : TypeId} (b : Nat) : ∀ (vs : List Value) (o : Nat) (w : World) (cur : Array Value), w.heap[b]? = some (.cells cur T (0, 0)) → w.setCells b o vs = w.setRow b (setsFrom cur o vs)
  | [], o, w, cur, h => (setRow_self w b cur T (0, 0) h).symm
  | v :: r, o, w, cur, h => by
    have e1 := setCell_eq_setRow w b o _ _ _ v h
    have hb : (w.setCell ⟨b, o, none⟩ v).heap[b]? = some (.cells (cur.setIfInBounds o v) T (0, 0)) := by rw [e1]; exact setRow_heap w _ _ _ _ _ h
    simp only [World.setCells, setsFrom]
    rw [setCells_row b r (o + 1) _ _ hb, e1, setRow_twice]
theorem set_all {w : World} {b : Nat} {cs new : Array Value} {T : TypeId} (h : w.heap[b]? = some (.cells cs T (0, 0))) (hn : new.size = cs.size) : w.setCells b 0 new.toList = w.setRow b new := by
  rw [setCells_row b new.toList 0 w cs h]
  congr 1
  apply Array.ext_getElem?
  intro k
  rw [setsFrom_get _ _ _ _ (by simp; omega)]
  by_cases hk : k < new.size
  · simp [hk]
  · rw [if_neg (by simp; omega), Array.getElem?_eq_none (by omega), Array.getElem?_eq_none (by omega)]
theorem stores_of {T n : Nat} (hT : Strct T n) {φ ψ : Pr} (h : Shp n φ) (h' : Shp n ψ) : Stores T φ ψ := fun ρ w o x y b u hφ hb hx hψ hop => by
  obtain ⟨cs, rfl, hn, _⟩ := h u w hφ
  obtain ⟨new, hy, hn', h1⟩ := h' _ w hψ
  obtain ⟨⟨d, hu, hd⟩, hi⟩ := hT
  unfold execOp
  simp only [hop, hx, hy, Sem.run_bind, run_storeAt_mid (P := Try.prog) w b 0 T new (there_of hb (by show cs.size = _; omega)) (by rw [hi, hn']) h1, Result.andThen_ok, Sem.run_pure]
  rw [set_all hb (by show _ = cs.size; omega)]
  rfl
theorem shp_zn {z : Int} {lo : Nat} : Shp 2 (ZN z lo) := fun u w ⟨r, c, e, _⟩ => ⟨_, e, rfl, by simp [Value.oneCell']⟩
theorem shp_zv {A : Int} {k : Nat} : Shp 2 (Zv A k) := fun u w ⟨s, p, n, c, xs, e, _⟩ => ⟨_, e, rfl, by simp [Value.oneCell']⟩
theorem shp_z0 : Shp 2 zI := fun u w e => ⟨_, e, rfl, by simp [Value.oneCell']⟩
theorem strct_int : Strct 31 2 := ⟨⟨_, Try.underlying31, rfl⟩, by kernel_rfl⟩
theorem pair_cases {φ : Pr} (h : Shp 2 φ) {u : Value} {w : World} (hφ : φ u w) : ∃ x y, u = .agg #[x, y] := by
  obtain ⟨cs, rfl, hn, _⟩ := h u w hφ
  obtain ⟨l⟩ := cs
  match l, hn with
  | [x, y], _ => exact ⟨x, y, rfl⟩
theorem alloc_int (ρ : Operand → Value) (o : Oper) (w : World) : (execOp ρ { o with op := .alloc 31 }).run Try.prog w = .ok (.value (.pointer (some ⟨w.heap.size, 0, none⟩))) (w.alloc (.cells (Value.agg #[.bool false, .slice none 0 0]).cells 31 (0, 0))) := by
  unfold execOp
  go_simp
theorem za_gives {w w' : World} {r : Option Addr} {cr : Nat} {z : Int} (Z : Za w w' r cr z) : Gives (ZN z) w (.returned (.agg #[.bool (ng z), .slice r (digs z.natAbs).length cr])) w' :=
  ⟨_, rfl, Z.below, r, cr, rfl, Z.sl, Z.fresh⟩
end Go.Proofs.Ytcljffdkonapeaa
