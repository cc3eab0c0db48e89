import Derived.Test.YtaplbadcpbollaaGreatDoorSetY
import Derived.Test.YtaplbadcpbollaaGreatDoorTxA
import Derived.Lib.Join
/-
  Lists by what is said of their elements: read, made, written in place, handed on; functions as values.
-/
namespace Go.Proofs.YtaplbadcpbollaaGreatDoor
open Go Go.RowKit Nt
set_option linter.unusedSimpArgs false
set_option linter.unusedVariables false
set_option maxRecDepth 20000

/-- It holds, whatever is made beside it. -/
abbrev Hs (w : World) (φ : Pr) (v : Value) : Prop := Has (fun _ => False) w φ v
theorem Has.hs {B : Nat → Prop} {w : World} {φ : Pr} {v : Value} (h : Has B w φ v) : Hs w φ v := fun w' e => h w' (e.mono (fun _ h => h.elim))
theorem Hs.below {w w' : World} {φ : Pr} {v : Value} (h : Hs w φ v) (b : Below w.heap.size w w') : Hs w' φ v := h.go (Ev.of_below b) (fun _ _ h => h)

section
variable {ops : Array Oper} {l : List Kd} {bx : Bxs} {sl : List (Tmp × Pr)} {i : Nat} {o : Oper} {Q : Exit → Act → World → Prop} {a0 : Act} {n0 : Nat} {w0 : World}
/-! Calls whose contracts ask that what is handed in stays so. -/
theorem owe_callh1 {ψ : Nat → Pr} {f : FuncId} {x : Operand} {ts : Array TypeId} {φ : Pr} (ho : ops[i]? = some o) (hw : Wants ops l bx sl i o) (hop : o.op = .call { callee := .value (.func f), args := #[x], argTypes := ts }) (hx : Opnd ops l bx sl i x φ) (hF : Fresh ψ) (hk : kdAt l i = .val (ψ w0.heap.size))
    (hcf : ∀ args w, (callFunc f args).run Tryz.prog w = .ok (.enter f args) w) (C : ∀ w u, Hs w φ u → Calls Tryz.prog f #[u] w (Gives ψ w)) : Owed Tryz.prog ops Q l bx sl a0 n0 w0 i :=
  owe_call ho hw hop hF hk hcf fun vs B a w c => by
    rw [show (#[x] : Array Operand).map a.eval = #[a.eval x] from by simp]
    exact C w _ (hx a0 n0 w0 vs B a w c).hs
theorem owe_callh2 {ψ : Nat → Pr} {f : FuncId} {x y : Operand} {ts : Array TypeId} {φ φ' : Pr} (ho : ops[i]? = some o) (hw : Wants ops l bx sl i o) (hop : o.op = .call { callee := .value (.func f), args := #[x, y], argTypes := ts }) (hx : Opnd ops l bx sl i x φ) (hy : Opnd ops l bx sl i y φ') (hF : Fresh ψ) (hk : kdAt l i = .val (ψ w0.heap.size))
    (hcf : ∀ args w, (callFunc f args).run Tryz.prog w = .ok (.enter f args) w) (C : ∀ w u v, Hs w φ u → Hs w φ' v → Calls Tryz.prog f #[u, v] w (Gives ψ w)) : Owed Tryz.prog ops Q l bx sl a0 n0 w0 i :=
  owe_call ho hw hop hF hk hcf fun vs B a w c => by
    rw [show (#[x, y] : Array Operand).map a.eval = #[a.eval x, a.eval y] from by simp]
    exact C w _ _ (hx a0 n0 w0 vs B a w c).hs (hy a0 n0 w0 vs B a w c).hs
theorem owe_callh3 {ψ : Nat → Pr} {f : FuncId} {x y z : Operand} {ts : Array TypeId} {φ φ' φ'' : Pr} (ho : ops[i]? = some o) (hw : Wants ops l bx sl i o) (hop : o.op = .call { callee := .value (.func f), args := #[x, y, z], argTypes := ts }) (hx : Opnd ops l bx sl i x φ) (hy : Opnd ops l bx sl i y φ') (hz : Opnd ops l bx sl i z φ'') (hF : Fresh ψ) (hk : kdAt l i = .val (ψ w0.heap.size))
    (hcf : ∀ args w, (callFunc f args).run Tryz.prog w = .ok (.enter f args) w) (C : ∀ w u v t, Hs w φ u → Hs w φ' v → Hs w φ'' t → Calls Tryz.prog f #[u, v, t] w (Gives ψ w)) : Owed Tryz.prog ops Q l bx sl a0 n0 w0 i :=
  owe_call ho hw hop hF hk hcf fun vs B a w c => by
    rw [show (#[x, y, z] : Array Operand).map a.eval = #[a.eval x, a.eval y, a.eval z] from by simp]
    exact C w _ _ _ (hx a0 n0 w0 vs B a w c).hs (hy a0 n0 w0 vs B a w c).hs (hz a0 n0 w0 vs B a w c).hs
end

section
variable {ops : Array Oper} {l : List Kd} {bx : Bxs} {sl : List (Tmp × Pr)} {i : Nat} {o : Oper} {Q : Exit → Act → World → Prop} {a0 : Act} {n0 : Nat} {w0 : World}
end

section
variable {ops : Array Oper} {l : List Kd} {bx : Bxs} {sl : List (Tmp × Pr)} {i : Nat} {o : Oper} {Q : Exit → Act → World → Prop} {a0 : Act} {n : Nat} {w0 : World}
theorem ch1 {ψ : Nat → Pr} {f : FuncId} {x : Operand} {ts : Array TypeId} {φ : Pr} (hw : Wants ops l bx sl i o) (hx : Opnd ops l bx sl i x φ) (hF : Fresh ψ) (C : ∀ w u, Hs w φ u → Calls Tryz.prog f #[u] w (Gives ψ w)) (ho : ops[i]? = some o := by exact rfl) (hop : o.op = .call { callee := .value (.func f), args := #[x], argTypes := ts } := by exact rfl) (hk : kdAt l i = .val (ψ w0.heap.size) := by exact rfl) (hcf : ∀ args w, (callFunc f args).run Tryz.prog w = .ok (.enter f args) w := by intro args w; go_simp) : Owed Tryz.prog ops Q l bx sl a0 n w0 i := owe_callh1 ho hw hop hx hF hk hcf C
theorem ch2 {ψ : Nat → Pr} {f : FuncId} {x y : Operand} {ts : Array TypeId} {φ φ' : Pr} (hw : Wants ops l bx sl i o) (hx : Opnd ops l bx sl i x φ) (hy : Opnd ops l bx sl i y φ') (hF : Fresh ψ) (C : ∀ w u v, Hs w φ u → Hs w φ' v → Calls Tryz.prog f #[u, v] w (Gives ψ w)) (ho : ops[i]? = some o := by exact rfl) (hop : o.op = .call { callee := .value (.func f), args := #[x, y], argTypes := ts } := by exact rfl) (hk : kdAt l i = .val (ψ w0.heap.size) := by exact rfl) (hcf : ∀ args w, (callFunc f args).run Tryz.prog w = .ok (.enter f args) w := by intro args w; go_simp) : Owed Tryz.prog ops Q l bx sl a0 n w0 i := owe_callh2 ho hw hop hx hy hF hk hcf C
theorem ch3 {ψ : Nat → Pr} {f : FuncId} {x y z : Operand} {ts : Array TypeId} {φ φ' φ'' : Pr} (hw : Wants ops l bx sl i o) (hx : Opnd ops l bx sl i x φ) (hy : Opnd ops l bx sl i y φ') (hz : Opnd ops l bx sl i z φ'') (hF : Fresh ψ) (C : ∀ w u v t, Hs w φ u → Hs w φ' v → Hs w φ'' t → Calls Tryz.prog f #[u, v, t] w (Gives ψ w)) (ho : ops[i]? = some o := by exact rfl) (hop : o.op = .call { callee := .value (.func f), args := #[x, y, z], argTypes := ts } := by exact rfl) (hk : kdAt l i = .val (ψ w0.heap.size) := by exact rfl) (hcf : ∀ args w, (callFunc f args).run Tryz.prog w = .ok (.enter f args) w := by intro args w; go_simp) : Owed Tryz.prog ops Q l bx sl a0 n w0 i := owe_callh3 ho hw hop hx hy hz hF hk hcf C
end
end Go.Proofs.YtaplbadcpbollaaGreatDoor

/-
  The table of powers of ten as a fact of a slot that nobody writes; texts as values; strings.Join.
-/
namespace Go.Proofs.YtaplbadcpbollaaGreatDoor
open Go Go.RowKit Nt
set_option linter.unusedSimpArgs false
set_option linter.unusedVariables false
set_option maxRecDepth 20000

theorem tab_ev {w w' : World} (h : Tab w) (e : Ev (fun _ => False) w w') : Tab w' := by
  unfold Tab Lib.TabIs World.var? at *
  cases hg : Tryz.prog.globalNamed "internal/strconv.uint64pow10" with
  | none => rw [hg] at h; cases h
  | some g =>
    rw [hg] at h
    simp only [Option.bind_some] at h ⊢
    cases hw : w.heap[g]? with
    | none => rw [hw] at h; cases h
    | some o =>
      rw [e.block g (Array.getElem?_eq_some_iff.1 hw).1 (fun h => h), hw]
      rw [hw] at h
      exact h
/-- The table, as a fact of a slot. -/
def TT : Pr := fun _ w => Tab w
theorem tt_has {w : World} (h : Tab w) : ∀ v, Has (fun _ => False) w TT v := fun v w' e => tab_ev h e
/-- What is said of a value, and the table beside it. -/
def TP (φ : Pr) : Pr := fun v w => φ v w ∧ Tab w
theorem tp_out {w : World} {φ : Pr} {v : Value} (h : Hs w (TP φ) v) : Hs w φ v ∧ Tab w := ⟨fun w' e => (h w' e).1, h.now.2⟩
theorem Sta.moreT {w0 W : World} {n : Nat} {bx : Bxs} {sl : List (Tmp × Pr)} {B : Nat → Prop} {a : Act} (S : Sta w0 n bx sl B a W) (t : Nat) {φ : Pr} (h : ∀ v, Has B W φ v) : Sta w0 n bx (sl ++ [(t, φ)]) B a W :=
  ⟨S.ent, S.bnd, S.siz, S.dfr, S.box, S.sep, fun x hx => by
    rcases List.mem_append.1 hx with h1 | h1
    · exact S.slt x h1
    · rw [List.mem_singleton.1 h1]; exact h _⟩
section
variable {ops : Array Oper} {l : List Kd} {bx : Bxs} {sl : List (Tmp × Pr)} {i : Nat} {o : Oper} {Q : Exit → Act → World → Prop} {a0 : Act} {n : Nat} {w0 : World}
theorem opnd_tp {x y : Operand} {φ : Pr} (h : Opnd ops l bx sl i x φ) (hy : Opnd ops l bx sl i y TT) : Opnd ops l bx sl i x (TP φ) := fun a0 n w0 vs B a w c w' e => ⟨h a0 n w0 vs B a w c w' e, hy a0 n w0 vs B a w c w' e⟩
end
/-! Texts. -/
/-- A text as a value. -/
def str (l : List UInt8) : Value := .string ⟨l.toArray⟩
def txN (m : Nat) : List UInt8 := Lib.decDigits m
def txZ (z : Int) : List UInt8 := if z < 0 then 45 :: txN z.natAbs else txN z.natAbs
theorem dec_pow (m : Nat) : ∀ X, X < 2 ^ m → (Lib.decDigits X).length ≤ m + 1 := by
  induction m with
  | zero =>
    intro X h
    have : X = 0 := by simpa using h
    subst this
    rw [Lib.decDigits]
    simp
  | succ m ih =>
    intro X h
    rw [Lib.decDigits]
    split
    · simp
    · have h1 := ih (X / 10) (by rw [Nat.pow_succ] at h; omega)
      rw [List.length_append, List.length_singleton]
      omega
theorem txN_len {x k : Nat} (h : (digs x).length ≤ k) : (txN x).length ≤ 32 * k + 1 := by
  refine dec_pow _ x ?_
  have h1 := lt_pow_digs x
  have h2 : (4294967296 : Nat) ^ (digs x).length ≤ 4294967296 ^ k := Nat.pow_le_pow_right (by omega) h
  have h3 : (4294967296 : Nat) ^ k = 2 ^ (32 * k) := by rw [Nat.pow_mul]
  omega
theorem txZ_len {z : Int} {k : Nat} (h : (digs z.natAbs).length ≤ k) : (txZ z).length ≤ 32 * k + 2 := by
  have := txN_len h
  unfold txZ
  split
  · rw [List.length_cons]; omega
  · omega
theorem str_size (l : List UInt8) : (⟨l.toArray⟩ : ByteArray).size = l.length := by simp [ByteArray.size]

theorem g_text {x k : Nat} (hk : k ≤ 1048577) : ∀ w u, Hs w (TP (Nv x k)) u → Calls Tryz.prog 41 #[u] w (Gives (IS (str (txN x))) w) := by
  intro w u h
  obtain ⟨⟨p, n, c, xs, rfl, hx, rfl, hn⟩, ht⟩ := h.now
  refine (text_c w p n c xs hx (by omega) ht).mono ?_
  rintro e w' ⟨rfl, hb⟩
  exact ⟨_, rfl, hb, rfl⟩
end Go.Proofs.YtaplbadcpbollaaGreatDoor

/-
  What the machine does with texts and their bytes.
-/
namespace Go.Proofs.YtaplbadcpbollaaGreatDoor
open Go Go.RowKit Nt
set_option linter.unusedSimpArgs false
set_option linter.unusedVariables false
set_option maxRecDepth 20000

/-- The byte at a place. -/
def bt (l : List UInt8) (i : Nat) : Nat := (l.getD i 0).toNat
theorem bt_lt (l : List UInt8) (i : Nat) : bt l i < 256 := UInt8.toNat_lt _
section
variable {ops : Array Oper} {l : List Kd} {bx : Bxs} {sl : List (Tmp × Pr)} {i : Nat} {o : Oper} {Q : Exit → Act → World → Prop} {a0 : Act} {n : Nat} {w0 : World}
theorem owe_two {x y : Operand} {P' : Op} {u v r : Value} (ho : ops[i]? = some o) (hw : Wants ops l bx sl i o) (hop : o.op = P') (hx : Opnd ops l bx sl i x (Is u)) (hy : Opnd ops l bx sl i y (Is v)) (hk : kdAt l i = .val (Is r))
    (hr : ∀ (ρ : Operand → Value) (w : World), ρ x = u → ρ y = v → (execOp ρ { o with op := P' }).run Tryz.prog w = .ok (.value r) w) : Owed Tryz.prog ops Q l bx sl a0 n w0 i :=
  owe_is ho hw hk fun vs B a w c => by
    have := hr a.eval w (hx a0 n w0 vs B a w c).now (hy a0 n w0 vs B a w c).now
    rw [← this]
    unfold execOp
    rw [hop]
end
theorem run_lens (ρ : Operand → Value) (o : Oper) (x : Operand) (w : World) (l : List UInt8) (h1 : ρ x = str l) : (execOp ρ { o with op := .call { callee := .builtin .len, args := #[x], argTypes := #[9] } }).run Tryz.prog w = .ok (.value (.int .i64 (l.length : Nat))) w := by
  unfold str at h1
  unfold execOp
  go_simp
theorem run_idx (ρ : Operand → Value) (o : Oper) (x y : Operand) (w : World) (l : List UInt8) (i : Nat) (hi : i < l.length) (h1 : ρ x = str l) (h2 : ρ y = .int .i64 (i : Nat)) : (execOp ρ { o with op := .index 9 x y }).run Tryz.prog w = .ok (.value (.int .u8 (bt l i : Nat))) w := by
  unfold str at h1
  have e : bt l i = (l[i]'hi).toNat := by unfold bt; rw [List.getD_eq_getElem?_getD, List.getElem?_eq_getElem hi]; rfl
  rw [e]
  clear e
  have hs : i < (⟨l.toArray⟩ : ByteArray).size := by rw [str_size]; exact hi
  unfold execOp
  go_simp
  try rfl
theorem run_slo (ρ : Operand → Value) (o : Oper) (x y : Operand) (w : World) (l : List UInt8) (i : Nat) (hi : i ≤ l.length) (h1 : ρ x = str l) (h2 : ρ y = .int .i64 (i : Nat)) : (execOp ρ { o with op := .slice 9 x (some y) none none }).run Tryz.prog w = .ok (.value (str (l.drop i))) w := by
  have e : str (l.drop i) = .string ((⟨l.toArray⟩ : ByteArray).extract i l.length) := by
    unfold str
    congr 1
    apply ByteArray.ext
    apply Array.ext'
    simp [ByteArray.data_extract, ByteArray.size]
    exact (List.take_of_length_le (by simp)).symm
  rw [e]
  unfold str at h1
  unfold execOp
  go_simp
theorem run_shi (ρ : Operand → Value) (o : Oper) (x y : Operand) (w : World) (l : List UInt8) (i : Nat) (hi : i ≤ l.length) (h1 : ρ x = str l) (h2 : ρ y = .int .i64 (i : Nat)) : (execOp ρ { o with op := .slice 9 x none (some y) none }).run Tryz.prog w = .ok (.value (str (l.take i))) w := by
  have e : str (l.take i) = .string ((⟨l.toArray⟩ : ByteArray).extract 0 i) := by
    unfold str
    congr 1
    apply ByteArray.ext
    apply Array.ext'
    simp [ByteArray.data_extract, ByteArray.size]
  rw [e]
  unfold str at h1
  unfold execOp
  go_simp
theorem run_eql_string_t (ρ : Operand → Value) (o : Oper) (x y : Operand) (w : World) (a b : List UInt8) (h : a = b) (h1 : ρ x = str a) (h2 : ρ y = str b) : (execOp ρ { o with op := .binOp .eql 9 x y 9 }).run Tryz.prog w = .ok (.value (.bool true)) w := by
  subst h
  unfold str at h1 h2
  unfold execOp
  go_simp
theorem run_neq_string_f (ρ : Operand → Value) (o : Oper) (x y : Operand) (w : World) (a b : List UInt8) (h : a = b) (h1 : ρ x = str a) (h2 : ρ y = str b) : (execOp ρ { o with op := .binOp .neq 9 x y 9 }).run Tryz.prog w = .ok (.value (.bool false)) w := by
  subst h
  unfold str at h1 h2
  unfold execOp
  go_simp
theorem run_eql_string_f (ρ : Operand → Value) (o : Oper) (x y : Operand) (w : World) (a b : List UInt8) (h : a ≠ b) (h1 : ρ x = str a) (h2 : ρ y = str b) : (execOp ρ { o with op := .binOp .eql 9 x y 9 }).run Tryz.prog w = .ok (.value (.bool false)) w := by
  have e : (⟨a.toArray⟩ : ByteArray) ≠ ⟨b.toArray⟩ := by
    intro e
    have e2 := congrArg (fun s => s.data.toList) e
    exact h (by simpa using e2)
  unfold str at h1 h2
  unfold execOp
  go_simp
  try exact e
theorem run_leq_u8_t (ρ : Operand → Value) (o : Oper) (x y : Operand) (w : World) (a b : Int) (h : a ≤ b) (h1 : ρ x = .int .u8 a) (h2 : ρ y = .int .u8 b) : (execOp ρ { o with op := .binOp .leq 5 x y 5 }).run Tryz.prog w = .ok (.value (.bool true)) w := by
  unfold execOp
  go_simp
theorem run_leq_u8_f (ρ : Operand → Value) (o : Oper) (x y : Operand) (w : World) (a b : Int) (h : b < a) (h1 : ρ x = .int .u8 a) (h2 : ρ y = .int .u8 b) : (execOp ρ { o with op := .binOp .leq 5 x y 5 }).run Tryz.prog w = .ok (.value (.bool false)) w := by
  unfold execOp
  go_simp
theorem run_eql_u8_t (ρ : Operand → Value) (o : Oper) (x y : Operand) (w : World) (a b : Int) (h : a = b) (h1 : ρ x = .int .u8 a) (h2 : ρ y = .int .u8 b) : (execOp ρ { o with op := .binOp .eql 5 x y 5 }).run Tryz.prog w = .ok (.value (.bool true)) w := by
  unfold execOp
  go_simp
theorem run_eql_u8_f (ρ : Operand → Value) (o : Oper) (x y : Operand) (w : World) (a b : Int) (h : a ≠ b) (h1 : ρ x = .int .u8 a) (h2 : ρ y = .int .u8 b) : (execOp ρ { o with op := .binOp .eql 5 x y 5 }).run Tryz.prog w = .ok (.value (.bool false)) w := by
  unfold execOp
  go_simp
theorem run_neq_u8_t (ρ : Operand → Value) (o : Oper) (x y : Operand) (w : World) (a b : Int) (h : a ≠ b) (h1 : ρ x = .int .u8 a) (h2 : ρ y = .int .u8 b) : (execOp ρ { o with op := .binOp .neq 5 x y 5 }).run Tryz.prog w = .ok (.value (.bool true)) w := by
  unfold execOp
  go_simp
theorem run_neq_u8_f (ρ : Operand → Value) (o : Oper) (x y : Operand) (w : World) (a b : Int) (h : a = b) (h1 : ρ x = .int .u8 a) (h2 : ρ y = .int .u8 b) : (execOp ρ { o with op := .binOp .neq 5 x y 5 }).run Tryz.prog w = .ok (.value (.bool false)) w := by
  unfold execOp
  go_simp
theorem run_geq_u8_t (ρ : Operand → Value) (o : Oper) (x y : Operand) (w : World) (a b : Int) (h : b ≤ a) (h1 : ρ x = .int .u8 a) (h2 : ρ y = .int .u8 b) : (execOp ρ { o with op := .binOp .geq 5 x y 5 }).run Tryz.prog w = .ok (.value (.bool true)) w := by
  unfold execOp
  go_simp
theorem run_geq_u8_f (ρ : Operand → Value) (o : Oper) (x y : Operand) (w : World) (a b : Int) (h : a < b) (h1 : ρ x = .int .u8 a) (h2 : ρ y = .int .u8 b) : (execOp ρ { o with op := .binOp .geq 5 x y 5 }).run Tryz.prog w = .ok (.value (.bool false)) w := by
  unfold execOp
  go_simp
section
variable {ops : Array Oper} {l : List Kd} {bx : Bxs} {sl : List (Tmp × Pr)} {i : Nat} {o : Oper} {Q : Exit → Act → World → Prop} {a0 : Act} {n : Nat} {w0 : World}
end
theorem run_sub_u8 (ρ : Operand → Value) (o : Oper) (x y : Operand) (w : World) (a b r : Int) (h : a - b = r ∧ 0 ≤ r ∧ r < 256) (h1 : ρ x = .int .u8 a) (h2 : ρ y = .int .u8 b) : (execOp ρ { o with op := .binOp .sub 5 x y 5 }).run Tryz.prog w = .ok (.value (.int .u8 r)) w := by
  obtain ⟨rfl, h3, h4⟩ := h
  have h5 : IntKind.u8.wrap (a - b) = a - b := by rw [IntKind.wrap_u8]; omega
  unfold execOp
  go_simp
theorem run_conv_8_32 (ρ : Operand → Value) (o : Oper) (x : Operand) (w : World) (a : Int) (h : 0 ≤ a ∧ a < 256) (h1 : ρ x = .int .u8 a) : (execOp ρ { o with op := .convert 5 67 x }).run Tryz.prog w = .ok (.value (.int .u32 a)) w := by
  obtain ⟨h3, h4⟩ := h
  have h5 : IntKind.u32.wrap a = a := by rw [IntKind.wrap_u32]; omega
  unfold execOp
  go_simp
section
variable {ops : Array Oper} {l : List Kd} {bx : Bxs} {sl : List (Tmp × Pr)} {i : Nat} {o : Oper} {Q : Exit → Act → World → Prop} {a0 : Act} {n : Nat} {w0 : World}
theorem b_leq_u8_t {a : Int} {b : Int} {x y : Operand} (hw : Wants ops l bx sl i o) (hx : Opnd ops l bx sl i x (Is (.int .u8 a))) (hy : Opnd ops l bx sl i y (Is (.int .u8 b))) (ho : ops[i]? = some o := by exact rfl) (hop : o.op = .binOp .leq 5 x y 5 := by exact rfl) (hk : kdAt l i = .val (Is (.bool true)) := by exact rfl) (h : a ≤ b := by omega) : Owed Tryz.prog ops Q l bx sl a0 n w0 i := owe_bin ho hw hop hx hy hk (fun ρ w h1 h2 => run_leq_u8_t ρ _ _ _ w _ _ h h1 h2)
theorem b_leq_u8_f {a : Int} {b : Int} {x y : Operand} (hw : Wants ops l bx sl i o) (hx : Opnd ops l bx sl i x (Is (.int .u8 a))) (hy : Opnd ops l bx sl i y (Is (.int .u8 b))) (ho : ops[i]? = some o := by exact rfl) (hop : o.op = .binOp .leq 5 x y 5 := by exact rfl) (hk : kdAt l i = .val (Is (.bool false)) := by exact rfl) (h : b < a := by omega) : Owed Tryz.prog ops Q l bx sl a0 n w0 i := owe_bin ho hw hop hx hy hk (fun ρ w h1 h2 => run_leq_u8_f ρ _ _ _ w _ _ h h1 h2)
theorem b_geq_u8_t {a : Int} {b : Int} {x y : Operand} (hw : Wants ops l bx sl i o) (hx : Opnd ops l bx sl i x (Is (.int .u8 a))) (hy : Opnd ops l bx sl i y (Is (.int .u8 b))) (ho : ops[i]? = some o := by exact rfl) (hop : o.op = .binOp .geq 5 x y 5 := by exact rfl) (hk : kdAt l i = .val (Is (.bool true)) := by exact rfl) (h : b ≤ a := by omega) : Owed Tryz.prog ops Q l bx sl a0 n w0 i := owe_bin ho hw hop hx hy hk (fun ρ w h1 h2 => run_geq_u8_t ρ _ _ _ w _ _ h h1 h2)
theorem b_geq_u8_f {a : Int} {b : Int} {x y : Operand} (hw : Wants ops l bx sl i o) (hx : Opnd ops l bx sl i x (Is (.int .u8 a))) (hy : Opnd ops l bx sl i y (Is (.int .u8 b))) (ho : ops[i]? = some o := by exact rfl) (hop : o.op = .binOp .geq 5 x y 5 := by exact rfl) (hk : kdAt l i = .val (Is (.bool false)) := by exact rfl) (h : a < b := by omega) : Owed Tryz.prog ops Q l bx sl a0 n w0 i := owe_bin ho hw hop hx hy hk (fun ρ w h1 h2 => run_geq_u8_f ρ _ _ _ w _ _ h h1 h2)
theorem b_eql_u8_t {a : Int} {b : Int} {x y : Operand} (hw : Wants ops l bx sl i o) (hx : Opnd ops l bx sl i x (Is (.int .u8 a))) (hy : Opnd ops l bx sl i y (Is (.int .u8 b))) (ho : ops[i]? = some o := by exact rfl) (hop : o.op = .binOp .eql 5 x y 5 := by exact rfl) (hk : kdAt l i = .val (Is (.bool true)) := by exact rfl) (h : a = b := by omega) : Owed Tryz.prog ops Q l bx sl a0 n w0 i := owe_bin ho hw hop hx hy hk (fun ρ w h1 h2 => run_eql_u8_t ρ _ _ _ w _ _ h h1 h2)
theorem b_eql_u8_f {a : Int} {b : Int} {x y : Operand} (hw : Wants ops l bx sl i o) (hx : Opnd ops l bx sl i x (Is (.int .u8 a))) (hy : Opnd ops l bx sl i y (Is (.int .u8 b))) (ho : ops[i]? = some o := by exact rfl) (hop : o.op = .binOp .eql 5 x y 5 := by exact rfl) (hk : kdAt l i = .val (Is (.bool false)) := by exact rfl) (h : a ≠ b := by omega) : Owed Tryz.prog ops Q l bx sl a0 n w0 i := owe_bin ho hw hop hx hy hk (fun ρ w h1 h2 => run_eql_u8_f ρ _ _ _ w _ _ h h1 h2)
theorem b_neq_u8_t {a : Int} {b : Int} {x y : Operand} (hw : Wants ops l bx sl i o) (hx : Opnd ops l bx sl i x (Is (.int .u8 a))) (hy : Opnd ops l bx sl i y (Is (.int .u8 b))) (ho : ops[i]? = some o := by exact rfl) (hop : o.op = .binOp .neq 5 x y 5 := by exact rfl) (hk : kdAt l i = .val (Is (.bool true)) := by exact rfl) (h : a ≠ b := by omega) : Owed Tryz.prog ops Q l bx sl a0 n w0 i := owe_bin ho hw hop hx hy hk (fun ρ w h1 h2 => run_neq_u8_t ρ _ _ _ w _ _ h h1 h2)
theorem b_neq_u8_f {a : Int} {b : Int} {x y : Operand} (hw : Wants ops l bx sl i o) (hx : Opnd ops l bx sl i x (Is (.int .u8 a))) (hy : Opnd ops l bx sl i y (Is (.int .u8 b))) (ho : ops[i]? = some o := by exact rfl) (hop : o.op = .binOp .neq 5 x y 5 := by exact rfl) (hk : kdAt l i = .val (Is (.bool false)) := by exact rfl) (h : a = b := by omega) : Owed Tryz.prog ops Q l bx sl a0 n w0 i := owe_bin ho hw hop hx hy hk (fun ρ w h1 h2 => run_neq_u8_f ρ _ _ _ w _ _ h h1 h2)
end
abbrev sV (t : List UInt8) : Pr := Is (str t)
section
variable {ops : Array Oper} {kl : List Kd} {bx : Bxs} {sl : List (Tmp × Pr)} {i : Nat} {o : Oper} {Q : Exit → Act → World → Prop} {a0 : Act} {n : Nat} {w0 : World}
theorem b_lens {t : List UInt8} {x : Operand} (hw : Wants ops kl bx sl i o) (hx : Opnd ops kl bx sl i x (Is (str t))) (ho : ops[i]? = some o := by exact rfl) (hop : o.op = .call { callee := .builtin .len, args := #[x], argTypes := #[9] } := by exact rfl) (hk : kdAt kl i = .val (Is (.int .i64 (t.length : Nat))) := by exact rfl) : Owed Tryz.prog ops Q kl bx sl a0 n w0 i := owe_un (x := x) ho hw hop hx hk (fun ρ w h1 => run_lens ρ _ _ w _ h1)
theorem b_idx {t : List UInt8} {x y : Operand} {k : Nat} (hw : Wants ops kl bx sl i o) (hx : Opnd ops kl bx sl i x (Is (str t))) (hy : Opnd ops kl bx sl i y (Is (.int .i64 (k : Nat)))) (ho : ops[i]? = some o := by exact rfl) (hop : o.op = .index 9 x y := by exact rfl) (hk : kdAt kl i = .val (Is (.int .u8 ((bt t k : Nat) : Int))) := by exact rfl) (h : k < t.length := by omega) : Owed Tryz.prog ops Q kl bx sl a0 n w0 i := owe_two ho hw hop hx hy hk (fun ρ w h1 h2 => run_idx ρ _ _ _ w t k h h1 h2)
end
end Go.Proofs.YtaplbadcpbollaaGreatDoor
