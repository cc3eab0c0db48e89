/-
  The table of powers of ten as a fact of a slot that nobody writes; texts as values; strings.Join.
-/
import Derived.Test.YtoplejeljmpcpaaDoorSetT
import Derived.Test.YtoplejeljmpcpaaDoorSetR
import Derived.Lib.Join
namespace Go.Proofs.YtoplejeljmpcpaaDoor
open Go Go.RowKit Nt
set_option linter.unusedSimpArgs false
set_option linter.unusedVariables false
set_option maxRecDepth 20000

theorem tab_ev {w w' : World} (h : Tab w) (e : Ev (fun _ => False) w w') : Tab w' := by
  unfold Tab Lib.TabIs World.var? at *
  cases hg : Tryd.prog.globalNamed "internal/strconv.uint64pow10" with
  | none => rw [hg] at h; cases h
  | some g =>
    rw [hg] at h
    simp only [Option.bind_some] at h ⊢
    cases hw : w.heap[g]? with
    | none => rw [hw] at h; cases h
    | some o =>
      rw [e.block g (Array.getElem?_eq_some_iff.1 hw).1 (fun h => h), hw]
      rw [hw] at h
      exact h
/-- The table, as a fact of a slot. -/
def TT : Pr := fun _ w => Tab w
theorem tt_has {w : World} (h : Tab w) : ∀ v, Has (fun _ => False) w TT v := fun v w' e => tab_ev h e
/-- What is said of a value, and the table beside it. -/
def TP (φ : Pr) : Pr := fun v w => φ v w ∧ Tab w
theorem tp_hs {w : World} {φ : Pr} {v : Value} (h : Hs w φ v) (ht : Tab w) : Hs w (TP φ) v := fun w' e => ⟨h w' e, tab_ev ht e⟩
theorem tp_out {w : World} {φ : Pr} {v : Value} (h : Hs w (TP φ) v) : Hs w φ v ∧ Tab w := ⟨fun w' e => (h w' e).1, h.now.2⟩
theorem tp_imp {φ ψ : Pr} (hi : ∀ v w, φ v w → ψ v w) : ∀ v w, TP φ v w → TP ψ v w := fun v w h => ⟨hi v w h.1, h.2⟩
theorem Sta.moreT {w0 W : World} {n : Nat} {bx : Bxs} {sl : List (Tmp × Pr)} {B : Nat → Prop} {a : Act} (S : Sta w0 n bx sl B a W) (t : Nat) {φ : Pr} (h : ∀ v, Has B W φ v) : Sta w0 n bx (sl ++ [(t, φ)]) B a W :=
  ⟨S.ent, S.bnd, S.siz, S.dfr, S.box, S.sep, fun x hx => by
    rcases List.mem_append.1 hx with h1 | h1
    · exact S.slt x h1
    · rw [List.mem_singleton.1 h1]; exact h _⟩
section
variable {ops : Array Oper} {l : List Kd} {bx : Bxs} {sl : List (Tmp × Pr)} {i : Nat} {o : Oper} {Q : Exit → Act → World → Prop} {a0 : Act} {n : Nat} {w0 : World}
theorem opnd_tp {x y : Operand} {φ : Pr} (h : Opnd ops l bx sl i x φ) (hy : Opnd ops l bx sl i y TT) : Opnd ops l bx sl i x (TP φ) := fun a0 n w0 vs B a w c w' e => ⟨h a0 n w0 vs B a w c w' e, hy a0 n w0 vs B a w c w' e⟩
theorem owe_call0T {ψ : Nat → Pr} {f : FuncId} {y : Operand} {ts : Array TypeId} (ho : ops[i]? = some o) (hw : Wants ops l bx sl i o) (hop : o.op = .call { callee := .value (.func f), args := #[], argTypes := ts }) (hy : Opnd ops l bx sl i y TT) (hF : Fresh ψ) (hk : kdAt l i = .val (ψ w0.heap.size))
    (hcf : ∀ args w, (callFunc f args).run Tryd.prog w = .ok (.enter f args) w) (C : ∀ w, Tab w → Calls Tryd.prog f #[] w (Gives ψ w)) : Owed Tryd.prog ops Q l bx sl a0 n w0 i :=
  owe_call ho hw hop hF hk hcf fun vs B a w c => by
    rw [show (#[] : Array Operand).map a.eval = #[] from by simp]
    exact C w (hy a0 n w0 vs B a w c).now
end
/-- A function that wants the table, as a value. -/
theorem is_fn1T {f : FuncId} {φs : List Pr} {ψs : List (Nat → Pr)} (hcf : ∀ args w, (callFunc f args).run Tryd.prog w = .ok (.enter f args) w) (C : ∀ (i : Nat) φ ψ, φs[i]? = some φ → ψs[i]? = some ψ → ∀ w u, Tab w → Hs w φ u → Calls Tryd.prog f #[u] w (Gives ψ w)) : ∀ v w, TP (Is (.func (.func f) #[] #[])) v w → Fn1 φs ψs v w := fun v w e =>
  ⟨f, #[], e.1, hcf, fun i φ ψ h1 h2 u hu => by simpa using C i φ ψ h1 h2 w u e.2 hu⟩

/-! Texts. -/
/-- A text as a value. -/
def str (l : List UInt8) : Value := .string ⟨l.toArray⟩
def txN (m : Nat) : List UInt8 := Lib.decDigits m
def txZ (z : Int) : List UInt8 := if z < 0 then 45 :: txN z.natAbs else txN z.natAbs
def txV (zs : List Int) : List UInt8 := Lib.join (zs.map txZ) [32]
def txM (A : List (List Int)) : List UInt8 := Lib.join (A.map txV) [59, 32]
theorem dec_pow (m : Nat) : ∀ X, X < 2 ^ m → (Lib.decDigits X).length ≤ m + 1 := by
  induction m with
  | zero =>
    intro X h
    have : X = 0 := by simpa using h
    subst this
    rw [Lib.decDigits]
    simp
  | succ m ih =>
    intro X h
    rw [Lib.decDigits]
    split
    · simp
    · have h1 := ih (X / 10) (by rw [Nat.pow_succ] at h; omega)
      rw [List.length_append, List.length_singleton]
      omega
theorem txN_len {x k : Nat} (h : (digs x).length ≤ k) : (txN x).length ≤ 32 * k + 1 := by
  refine dec_pow _ x ?_
  have h1 := lt_pow_digs x
  have h2 : (4294967296 : Nat) ^ (digs x).length ≤ 4294967296 ^ k := Nat.pow_le_pow_right (by omega) h
  have h3 : (4294967296 : Nat) ^ k = 2 ^ (32 * k) := by rw [Nat.pow_mul]
  omega
theorem txZ_len {z : Int} {k : Nat} (h : (digs z.natAbs).length ≤ k) : (txZ z).length ≤ 32 * k + 2 := by
  have := txN_len h
  unfold txZ
  split
  · rw [List.length_cons]; omega
  · omega
theorem txN_0 : txN 0 = [48] := by unfold txN; rw [Lib.decDigits]; rfl
theorem txN_1 : txN 1 = [49] := by unfold txN; rw [Lib.decDigits]; rfl
theorem tx_unit : txM [[1, 0], [0, 1]] = [49, 32, 48, 59, 32, 48, 32, 49] := by
  simp [txM, txV, txZ, txN_0, txN_1, Lib.join, List.intercalate, List.intersperse]
theorem str_size (l : List UInt8) : (⟨l.toArray⟩ : ByteArray).size = l.length := by simp [ByteArray.size]

theorem g_text {x k : Nat} (hk : k ≤ 1048577) : ∀ w u, Hs w (TP (Nv x k)) u → Calls Tryd.prog 23 #[u] w (Gives (IS (str (txN x))) w) := by
  intro w u h
  obtain ⟨⟨p, n, c, xs, rfl, hx, rfl, hn⟩, ht⟩ := h.now
  refine (text_c w p n c xs hx (by omega) ht).mono ?_
  rintro e w' ⟨rfl, hb⟩
  exact ⟨_, rfl, hb, rfl⟩
end Go.Proofs.YtoplejeljmpcpaaDoor
