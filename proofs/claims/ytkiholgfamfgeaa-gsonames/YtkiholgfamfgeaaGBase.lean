/-
  Layer 5 in the logic: the struct of the data, its rules; what the program reckons, as functions.
-/
import Derived.Test.YtkiholgfamfgeaaFields
import Derived.Test.YtkiholgfamfgeaaSetV
import Derived.Test.YtkiholgfamfgeaaSetG
import Derived.Test.YtkiholgfamfgeaaMConts
import Derived.Test.YtkiholgfamfgeaaJoins
namespace Go.Proofs.Ytkiholgfamfgeaa
open Go Go.RowKit Nt
set_option linter.unusedSimpArgs false
set_option linter.unusedVariables false
set_option maxRecDepth 20000

abbrev zG : Pr := Is (.agg #[.slice none 0 0, .slice none 0 0])
theorem strct_gso : Strct 25 2 := ⟨⟨_, Try.underlying25, rfl⟩, by kernel_rfl⟩
theorem shp_g0 : Shp 2 (Is (.agg #[.slice none 0 0, .slice none 0 0])) := fun u w h => ⟨_, h, rfl, by simp [Value.oneCell']⟩
theorem shp_sf2 {p q : Pr} : Shp 2 (SF [p, q]) := shp_sf (ps := [p, q])
theorem shp_isz {s : Bool} {p : Option Addr} {n c : Nat} : Shp 2 (Is (.agg #[.bool s, .slice p n c])) := fun u w h => ⟨_, h, rfl, by simp [Value.oneCell']⟩
theorem alloc_gso (ρ : Operand → Value) (o : Oper) (w : World) : (execOp ρ { o with op := .alloc 25 }).run Try.prog w = .ok (.value (.pointer (some ⟨w.heap.size, 0, none⟩))) (w.alloc (.cells (Value.agg #[.slice none 0 0, .slice none 0 0]).cells 25 (0, 0))) := by
  unfold execOp
  go_simp
theorem box_gso {φ : Pr} (h : Shp 2 φ) (ρ : Operand → Value) (o : Oper) (x : Operand) (w : World) (hφ : φ (ρ x) w) : (execOp ρ { o with op := .box 25 x }).run Try.prog w = .ok (.value (.pointer (some ⟨w.heap.size, 0, none⟩))) (w.alloc (.cells (ρ x).cells 25 (0, 0))) := by
  obtain ⟨cs, e, h1, h2⟩ := h _ _ hφ
  unfold execOp
  rw [e]
  go_simp
theorem part_gso0 (ρ : Operand → Value) (o : Oper) (x : Operand) (w : World) (b f : Nat) (h : ρ x = .pointer (some ⟨b, f, none⟩)) : (execOp ρ { o with op := .fieldAddr 25 x 0 }).run Try.prog w = .ok (.value (.pointer (some ⟨b, f, none⟩))) w := by
  unfold execOp
  go_simp
theorem part_gso1 (ρ : Operand → Value) (o : Oper) (x : Operand) (w : World) (b f : Nat) (h : ρ x = .pointer (some ⟨b, f, none⟩)) : (execOp ρ { o with op := .fieldAddr 25 x 1 }).run Try.prog w = .ok (.value (.pointer (some ⟨b, f + 1, none⟩))) w := by
  unfold execOp
  go_simp
theorem ploadS {ps : List Pr} {χ : Pr} {f : Nat} {T T' : TypeId} (hp : ps[f]? = some χ) (hL : Load1 T') (ρ : Operand → Value) (o : Oper) (x : Operand) (w : World) (b : Nat) (u : Value) (hφ : SF ps u w) (hx : ρ x = .pointer (some ⟨b, f, none⟩)) (hb : w.heap[b]? = some (.cells u.cells T (0, 0))) :
    ∃ v, (execOp ρ { o with op := .load T' x }).run Try.prog w = .ok (.value v) w ∧ ∀ w', SF ps u w' → χ v w' := by
  obtain ⟨cs, rfl, h1, h2, h3⟩ := hφ
  obtain ⟨v, hv, _⟩ := h3 f χ hp
  refine ⟨v, hL ρ w o x b f v hx (sf_cell hb hv), fun w' h' => ?_⟩
  obtain ⟨_, _, h4⟩ := h'.get
  obtain ⟨v', hv', hχ⟩ := h4 f χ hp
  rw [hv] at hv'
  cases hv'
  exact hχ
theorem Sta.reboxS {w0 W : World} {n : Nat} {bx : Bxs} {sl : List (Tmp × Pr)} {B : Nat → Prop} {a : Act} (S : Sta w0 n bx sl B a W) (k : Nat) {t : Nat} {T : TypeId} {φ ψ : Pr} (h : bx[k]? = some (t, .box T φ)) (hi : ∀ v w, φ v w → ψ v w) : Sta w0 n (bx.set k (t, .box T ψ)) sl B a W := by
  have hm := List.mem_of_getElem? h
  have key : ∀ x ∈ bx.set k (t, .box T ψ), ∃ y ∈ bx, y.1 = x.1 ∧ (∀ v b, x.2.set v b ↔ y.2.set v b) ∧ (y.2.at w0.heap.size B W (a.eval (.tmp x.1)) → x.2.at w0.heap.size B W (a.eval (.tmp x.1))) := fun x hx => by
    rcases List.mem_or_eq_of_mem_set hx with h1 | rfl
    · exact ⟨x, h1, rfl, fun _ _ => Iff.rfl, id⟩
    · exact ⟨_, hm, rfl, fun _ _ => Iff.rfl, fun ⟨b, u, h1, h2, h3, h4⟩ => ⟨b, u, h1, h2, h3, h4.imp (fun w => hi u w)⟩⟩
  refine ⟨S.ent, S.bnd, S.siz, S.dfr, fun x hx => ?_, fun x hx y hy b hbx hby => ?_, S.slt⟩
  · obtain ⟨y, hy, e, _, h2⟩ := key x hx
    exact h2 (by rw [← e]; exact S.box y hy)
  · obtain ⟨x', hx', ex, sx, _⟩ := key x hx
    obtain ⟨y', hy', ey, sy, _⟩ := key y hy
    have := S.sep x' hx' y' hy' b (by rw [ex]; exact (sx _ _).1 hbx) (by rw [ey]; exact (sy _ _).1 hby)
    rw [← ex, ← ey, this]

section
variable {ops : Array Oper} {l : List Kd} {bx : Bxs} {sl : List (Tmp × Pr)} {i : Nat} {o : Oper} {Q : Exit → Act → World → Prop} {a0 : Act} {n : Nat} {w0 : World}
/-- A call, by all that is known when it comes up. -/
theorem owe_callW {χ : Pr} {f : FuncId} {xs : Array Operand} {ts : Array TypeId} (ho : ops[i]? = some o) (hw : Wants ops l bx sl i o) (hop : o.op = .call { callee := .value (.func f), args := xs, argTypes := ts }) (hk : kdAt l i = .val χ)
    (hcf : ∀ args w, (callFunc f args).run Try.prog w = .ok (.enter f args) w)
    (h : ∀ vs B a w, Ctx ops l bx sl a0 n w0 i vs B a w → Calls Try.prog f (xs.map a.eval) w fun e w' => ∃ r, e = .returned r ∧ Below w.heap.size w w' ∧ Has B w' χ r) : Owed Try.prog ops Q l bx sl a0 n w0 i := fun vs B a w c o' ho' => by
  obtain rfl : o = o' := Option.some.inj (ho.symm.trans ho')
  have hr : (execOp a.eval o).run Try.prog w = .ok (.enter f (xs.map a.eval)) w := by
    unfold execOp
    rw [hop]
    have hf : a.eval (.func f) = .func (.func f) #[] #[] := rfl
    generalize a.eval = ρ at hf
    go_simp
  simp only [wpOp, ho]
  rw [if_pos (hw a0 n w0 vs B a w c)]
  refine Or.inl ?_
  unfold Oper.wp
  rw [hr, Oper.upon_enter]
  refine (h vs B a w c).mono ?_
  rintro e w' ⟨v, rfl, hb, hψ⟩
  refine ⟨v, rfl, ?_⟩
  rw [hk]
  exact ⟨hb, hψ⟩
theorem gives_has {ψ : Nat → Pr} {vs : Nat → Value} {B : Nat → Prop} {a : Act} {w : World} (hF : Fresh ψ) (c : Ctx ops l bx sl a0 n w0 i vs B a w) {e : Ending} {w' : World} (h : Gives ψ w e w') : ∃ r, e = .returned r ∧ Below w.heap.size w w' ∧ Has B w' (ψ w0.heap.size) r := by
  obtain ⟨v, rfl, hb, hψ⟩ := h
  exact ⟨v, rfl, hb, fun w'' e'' => hF.mono _ _ _ _ c.lo (hF.ev _ _ _ _ B (fun k hk => (c.bnd k hk).2) hψ e'')⟩
theorem owe_build_gso (ho : ops[i]? = some o) (hw : Wants ops l bx sl i o) (hop : o.op = .build 25 #[]) (hk : kdAt l i = .val zG) : Owed Try.prog ops Q l bx sl a0 n w0 i :=
  owe_is ho hw hk fun vs B a w c => by
    unfold execOp
    rw [hop]
    go_simp
/-- The struct with one field set. -/
theorem owe_buildG {x : Operand} {p : Option Addr} {m c : Nat} (ho : ops[i]? = some o) (hw : Wants ops l bx sl i o) (hop : o.op = .build 25 #[(0, x)]) (hx : Opnd ops l bx sl i x (Is (.slice p m c))) (hk : kdAt l i = .val (SF [Is (.slice p m c), Is (.slice none 0 0)])) : Owed Try.prog ops Q l bx sl a0 n w0 i :=
  owe_val ho hw hk fun vs B a w cx => by
    have hxv : a.eval x = .slice p m c := (hx a0 n w0 vs B a w cx).now
    refine ⟨.agg #[.slice p m c, .slice none 0 0], ?_, fun w' ev => ⟨_, rfl, rfl, by simp [Value.oneCell'], fun f q hq => ?_⟩⟩
    · unfold execOp
      rw [hop]
      generalize a.eval = ρ at hxv
      go_simp
    · match f, hq with
      | 0, hq => simp at hq; subst hq; exact ⟨_, rfl, rfl⟩
      | 1, hq => simp at hq; subst hq; exact ⟨_, rfl, rfl⟩
end

/-! What is reckoned. -/
theorem dl_getD {zs : List Int} {k : Nat} (h : Dl zs k) (i : Nat) : (digs (zs.getD i 0).natAbs).length ≤ k := by
  rw [List.getD_eq_getElem?_getD]
  cases e : zs[i]? with
  | none => show (digs (0 : Int).natAbs).length ≤ k; rw [show (0 : Int).natAbs = 0 from rfl, digs_zero]; exact Nat.zero_le _
  | some z => exact h i z e
theorem digs_sub_len {A B : Int} {k : Nat} (h1 : (digs A.natAbs).length ≤ k) (h2 : (digs B.natAbs).length ≤ k) : (digs (A - B).natAbs).length ≤ k + 1 :=
  Nat.le_trans (digs_length_mono (by omega : (A - B).natAbs ≤ A.natAbs + B.natAbs)) (digs_add_len h1 h2)
theorem zv_at {D : List Int} {K k : Nat} (h : k < D.length) : (D.map (fun z => Zv z K))[k]? = some (Zv (D.getD k 0) K) := by
  rw [List.getElem?_map, List.getElem?_eq_getElem h, List.getD_eq_getElem?_getD, List.getElem?_eq_getElem h]
  rfl
theorem vv_at {A : List (List Int)} {K k : Nat} (h : k < A.length) : (A.map (fun zs => Vv zs.length zs K))[k]? = some (Vv (A.getD k []).length (A.getD k []) K) := by
  rw [List.getElem?_map, List.getElem?_eq_getElem h, List.getD_eq_getElem?_getD, List.getElem?_eq_getElem h]
  rfl
/-- The dot product when the first rows have been taken out of both. -/
def tk (D L M : List Int) (z : Int) : Nat → Int
  | 0 => z
  | k + 1 => fl (D.getD (k + 1) 0 * tk D L M z k - L.getD k 0 * M.getD k 0) (D.getD k 0)
structure TkOk (D L M : List Int) (z : Int) (m K : Nat) : Prop where
  ne : ∀ k, k < m → D.getD k 0 ≠ 0
  ex : ∀ k, k < m → rm (D.getD (k + 1) 0 * tk D L M z k - L.getD k 0 * M.getD k 0) (D.getD k 0) = 0
  dl : ∀ k, k ≤ m → (digs (tk D L M z k).natAbs).length ≤ K
/-- What lies in the box behind k rounds. -/
def TkP (D L M : List Int) (z : Int) (K lo : Nat) : Nat → Pr
  | 0 => Zv z K
  | k + 1 => ZN (tk D L M z (k + 1)) lo
theorem tkp_zv {D L M : List Int} {z : Int} {K lo m k : Nat} (ok : TkOk D L M z m K) (hk : k ≤ m) : ∀ v w, TkP D L M z K lo k v w → Zv (tk D L M z k) K v w := fun v w h => by
  cases k with
  | zero => exact h
  | succ k => exact zn_zv (ok.dl _ hk) v w h
theorem tkp_zn {D L M : List Int} {z : Int} {K lo k : Nat} (hk : 0 < k) : ∀ v w, TkP D L M z K lo k v w → ZN (tk D L M z k) lo v w := fun v w h => by
  cases k with
  | zero => omega
  | succ k => exact h
end Go.Proofs.Ytkiholgfamfgeaa
