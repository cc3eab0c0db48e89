/-
  What the machine does with texts and their bytes.
-/
import Derived.Test.YtoplejeljmpcpaaDoorTabs
namespace Go.Proofs.YtoplejeljmpcpaaDoor
open Go Go.RowKit Nt
set_option linter.unusedSimpArgs false
set_option linter.unusedVariables false
set_option maxRecDepth 20000

/-- The byte at a place. -/
def bt (l : List UInt8) (i : Nat) : Nat := (l.getD i 0).toNat
theorem bt_lt (l : List UInt8) (i : Nat) : bt l i < 256 := UInt8.toNat_lt _
section
variable {ops : Array Oper} {l : List Kd} {bx : Bxs} {sl : List (Tmp × Pr)} {i : Nat} {o : Oper} {Q : Exit → Act → World → Prop} {a0 : Act} {n : Nat} {w0 : World}
theorem owe_two {x y : Operand} {P' : Op} {u v r : Value} (ho : ops[i]? = some o) (hw : Wants ops l bx sl i o) (hop : o.op = P') (hx : Opnd ops l bx sl i x (Is u)) (hy : Opnd ops l bx sl i y (Is v)) (hk : kdAt l i = .val (Is r))
    (hr : ∀ (ρ : Operand → Value) (w : World), ρ x = u → ρ y = v → (execOp ρ { o with op := P' }).run Tryd.prog w = .ok (.value r) w) : Owed Tryd.prog ops Q l bx sl a0 n w0 i :=
  owe_is ho hw hk fun vs B a w c => by
    have := hr a.eval w (hx a0 n w0 vs B a w c).now (hy a0 n w0 vs B a w c).now
    rw [← this]
    unfold execOp
    rw [hop]
end
theorem run_lens (ρ : Operand → Value) (o : Oper) (x : Operand) (w : World) (l : List UInt8) (h1 : ρ x = str l) : (execOp ρ { o with op := .call { callee := .builtin .len, args := #[x], argTypes := #[9] } }).run Tryd.prog w = .ok (.value (.int .i64 (l.length : Nat))) w := by
  unfold str at h1
  unfold execOp
  go_simp
theorem run_idx (ρ : Operand → Value) (o : Oper) (x y : Operand) (w : World) (l : List UInt8) (i : Nat) (hi : i < l.length) (h1 : ρ x = str l) (h2 : ρ y = .int .i64 (i : Nat)) : (execOp ρ { o with op := .index 9 x y }).run Tryd.prog w = .ok (.value (.int .u8 (bt l i : Nat))) w := by
  unfold str at h1
  have e : bt l i = (l[i]'hi).toNat := by unfold bt; rw [List.getD_eq_getElem?_getD, List.getElem?_eq_getElem hi]; rfl
  rw [e]
  clear e
  have hs : i < (⟨l.toArray⟩ : ByteArray).size := by rw [str_size]; exact hi
  unfold execOp
  go_simp
  try rfl
theorem run_slo (ρ : Operand → Value) (o : Oper) (x y : Operand) (w : World) (l : List UInt8) (i : Nat) (hi : i ≤ l.length) (h1 : ρ x = str l) (h2 : ρ y = .int .i64 (i : Nat)) : (execOp ρ { o with op := .slice 9 x (some y) none none }).run Tryd.prog w = .ok (.value (str (l.drop i))) w := by
  have e : str (l.drop i) = .string ((⟨l.toArray⟩ : ByteArray).extract i l.length) := by
    unfold str
    congr 1
    apply ByteArray.ext
    apply Array.ext'
    simp [ByteArray.data_extract, ByteArray.size]
    exact (List.take_of_length_le (by simp)).symm
  rw [e]
  unfold str at h1
  unfold execOp
  go_simp
theorem run_shi (ρ : Operand → Value) (o : Oper) (x y : Operand) (w : World) (l : List UInt8) (i : Nat) (hi : i ≤ l.length) (h1 : ρ x = str l) (h2 : ρ y = .int .i64 (i : Nat)) : (execOp ρ { o with op := .slice 9 x none (some y) none }).run Tryd.prog w = .ok (.value (str (l.take i))) w := by
  have e : str (l.take i) = .string ((⟨l.toArray⟩ : ByteArray).extract 0 i) := by
    unfold str
    congr 1
    apply ByteArray.ext
    apply Array.ext'
    simp [ByteArray.data_extract, ByteArray.size]
  rw [e]
  unfold str at h1
  unfold execOp
  go_simp
theorem run_eql_string_t (ρ : Operand → Value) (o : Oper) (x y : Operand) (w : World) (a b : List UInt8) (h : a = b) (h1 : ρ x = str a) (h2 : ρ y = str b) : (execOp ρ { o with op := .binOp .eql 9 x y 9 }).run Tryd.prog w = .ok (.value (.bool true)) w := by
  subst h
  unfold str at h1 h2
  unfold execOp
  go_simp
theorem run_neq_string_f (ρ : Operand → Value) (o : Oper) (x y : Operand) (w : World) (a b : List UInt8) (h : a = b) (h1 : ρ x = str a) (h2 : ρ y = str b) : (execOp ρ { o with op := .binOp .neq 9 x y 9 }).run Tryd.prog w = .ok (.value (.bool false)) w := by
  subst h
  unfold str at h1 h2
  unfold execOp
  go_simp
theorem run_eql_string_f (ρ : Operand → Value) (o : Oper) (x y : Operand) (w : World) (a b : List UInt8) (h : a ≠ b) (h1 : ρ x = str a) (h2 : ρ y = str b) : (execOp ρ { o with op := .binOp .eql 9 x y 9 }).run Tryd.prog w = .ok (.value (.bool false)) w := by
  have e : (⟨a.toArray⟩ : ByteArray) ≠ ⟨b.toArray⟩ := by
    intro e
    have e2 := congrArg (fun s => s.data.toList) e
    exact h (by simpa using e2)
  unfold str at h1 h2
  unfold execOp
  go_simp
  try exact e
theorem run_leq_u8_t (ρ : Operand → Value) (o : Oper) (x y : Operand) (w : World) (a b : Int) (h : a ≤ b) (h1 : ρ x = .int .u8 a) (h2 : ρ y = .int .u8 b) : (execOp ρ { o with op := .binOp .leq 5 x y 5 }).run Tryd.prog w = .ok (.value (.bool true)) w := by
  unfold execOp
  go_simp
theorem run_leq_u8_f (ρ : Operand → Value) (o : Oper) (x y : Operand) (w : World) (a b : Int) (h : b < a) (h1 : ρ x = .int .u8 a) (h2 : ρ y = .int .u8 b) : (execOp ρ { o with op := .binOp .leq 5 x y 5 }).run Tryd.prog w = .ok (.value (.bool false)) w := by
  unfold execOp
  go_simp
theorem run_eql_u8_t (ρ : Operand → Value) (o : Oper) (x y : Operand) (w : World) (a b : Int) (h : a = b) (h1 : ρ x = .int .u8 a) (h2 : ρ y = .int .u8 b) : (execOp ρ { o with op := .binOp .eql 5 x y 5 }).run Tryd.prog w = .ok (.value (.bool true)) w := by
  unfold execOp
  go_simp
theorem run_eql_u8_f (ρ : Operand → Value) (o : Oper) (x y : Operand) (w : World) (a b : Int) (h : a ≠ b) (h1 : ρ x = .int .u8 a) (h2 : ρ y = .int .u8 b) : (execOp ρ { o with op := .binOp .eql 5 x y 5 }).run Tryd.prog w = .ok (.value (.bool false)) w := by
  unfold execOp
  go_simp
theorem run_neq_u8_t (ρ : Operand → Value) (o : Oper) (x y : Operand) (w : World) (a b : Int) (h : a ≠ b) (h1 : ρ x = .int .u8 a) (h2 : ρ y = .int .u8 b) : (execOp ρ { o with op := .binOp .neq 5 x y 5 }).run Tryd.prog w = .ok (.value (.bool true)) w := by
  unfold execOp
  go_simp
theorem run_neq_u8_f (ρ : Operand → Value) (o : Oper) (x y : Operand) (w : World) (a b : Int) (h : a = b) (h1 : ρ x = .int .u8 a) (h2 : ρ y = .int .u8 b) : (execOp ρ { o with op := .binOp .neq 5 x y 5 }).run Tryd.prog w = .ok (.value (.bool false)) w := by
  unfold execOp
  go_simp
theorem run_lss_u8_t (ρ : Operand → Value) (o : Oper) (x y : Operand) (w : World) (a b : Int) (h : a < b) (h1 : ρ x = .int .u8 a) (h2 : ρ y = .int .u8 b) : (execOp ρ { o with op := .binOp .lss 5 x y 5 }).run Tryd.prog w = .ok (.value (.bool true)) w := by
  unfold execOp
  go_simp
theorem run_lss_u8_f (ρ : Operand → Value) (o : Oper) (x y : Operand) (w : World) (a b : Int) (h : b ≤ a) (h1 : ρ x = .int .u8 a) (h2 : ρ y = .int .u8 b) : (execOp ρ { o with op := .binOp .lss 5 x y 5 }).run Tryd.prog w = .ok (.value (.bool false)) w := by
  unfold execOp
  go_simp
theorem run_gtr_u8_t (ρ : Operand → Value) (o : Oper) (x y : Operand) (w : World) (a b : Int) (h : b < a) (h1 : ρ x = .int .u8 a) (h2 : ρ y = .int .u8 b) : (execOp ρ { o with op := .binOp .gtr 5 x y 5 }).run Tryd.prog w = .ok (.value (.bool true)) w := by
  unfold execOp
  go_simp
theorem run_gtr_u8_f (ρ : Operand → Value) (o : Oper) (x y : Operand) (w : World) (a b : Int) (h : a ≤ b) (h1 : ρ x = .int .u8 a) (h2 : ρ y = .int .u8 b) : (execOp ρ { o with op := .binOp .gtr 5 x y 5 }).run Tryd.prog w = .ok (.value (.bool false)) w := by
  unfold execOp
  go_simp
theorem run_geq_u8_t (ρ : Operand → Value) (o : Oper) (x y : Operand) (w : World) (a b : Int) (h : b ≤ a) (h1 : ρ x = .int .u8 a) (h2 : ρ y = .int .u8 b) : (execOp ρ { o with op := .binOp .geq 5 x y 5 }).run Tryd.prog w = .ok (.value (.bool true)) w := by
  unfold execOp
  go_simp
theorem run_geq_u8_f (ρ : Operand → Value) (o : Oper) (x y : Operand) (w : World) (a b : Int) (h : a < b) (h1 : ρ x = .int .u8 a) (h2 : ρ y = .int .u8 b) : (execOp ρ { o with op := .binOp .geq 5 x y 5 }).run Tryd.prog w = .ok (.value (.bool false)) w := by
  unfold execOp
  go_simp
section
variable {ops : Array Oper} {l : List Kd} {bx : Bxs} {sl : List (Tmp × Pr)} {i : Nat} {o : Oper} {Q : Exit → Act → World → Prop} {a0 : Act} {n : Nat} {w0 : World}
/-- A new row without a limb. -/
theorem owe_nil0 (ho : ops[i]? = some o) (hw : Wants ops l bx sl i o) (hop : o.op = .buildSlice 22 0 #[]) (hk : kdAt l i = .val (NN 0 w0.heap.size)) : Owed Tryd.prog ops Q l bx sl a0 n w0 i :=
  owe_grow ho hw hk fun vs B a w c => by
    have hb : Below w.heap.size w (w.alloc (.cells #[] 46)) := (Below.refl _ _).alloc (Nat.le_refl _) _
    refine ⟨.slice (some ⟨w.heap.size, 0, none⟩) 0 0, w.alloc (.cells #[] 46), ?_, hb, fun w'' e'' => ?_⟩
    · unfold execOp
      rw [hop]
      generalize a.eval = ρ
      go_simp
    · refine ⟨some ⟨w.heap.size, 0, none⟩, 0, by rw [digs_zero]; rfl, ?_, fun b o e => by cases e; exact c.lo⟩
      rw [digs_zero]
      exact ⟨rfl, Nat.le_refl _, Nat.zero_le _, (fun e => by cases e), Ok.nil, Limbs.nil _ _⟩
end
theorem run_sub_u8 (ρ : Operand → Value) (o : Oper) (x y : Operand) (w : World) (a b r : Int) (h : a - b = r ∧ 0 ≤ r ∧ r < 256) (h1 : ρ x = .int .u8 a) (h2 : ρ y = .int .u8 b) : (execOp ρ { o with op := .binOp .sub 5 x y 5 }).run Tryd.prog w = .ok (.value (.int .u8 r)) w := by
  obtain ⟨rfl, h3, h4⟩ := h
  have h5 : IntKind.u8.wrap (a - b) = a - b := by rw [IntKind.wrap_u8]; omega
  unfold execOp
  go_simp
theorem run_mul_u32 (ρ : Operand → Value) (o : Oper) (x y : Operand) (w : World) (a b r : Int) (h : a * b = r ∧ 0 ≤ r ∧ r < 4294967296) (h1 : ρ x = .int .u32 a) (h2 : ρ y = .int .u32 b) : (execOp ρ { o with op := .binOp .mul 46 x y 46 }).run Tryd.prog w = .ok (.value (.int .u32 r)) w := by
  obtain ⟨rfl, h3, h4⟩ := h
  have h5 : IntKind.u32.wrap (a * b) = a * b := by rw [IntKind.wrap_u32]; omega
  unfold execOp
  go_simp
theorem run_add_u32 (ρ : Operand → Value) (o : Oper) (x y : Operand) (w : World) (a b r : Int) (h : a + b = r ∧ 0 ≤ r ∧ r < 4294967296) (h1 : ρ x = .int .u32 a) (h2 : ρ y = .int .u32 b) : (execOp ρ { o with op := .binOp .add 46 x y 46 }).run Tryd.prog w = .ok (.value (.int .u32 r)) w := by
  obtain ⟨rfl, h3, h4⟩ := h
  have h5 : IntKind.u32.wrap (a + b) = a + b := by rw [IntKind.wrap_u32]; omega
  unfold execOp
  go_simp
theorem run_conv_8_32 (ρ : Operand → Value) (o : Oper) (x : Operand) (w : World) (a : Int) (h : 0 ≤ a ∧ a < 256) (h1 : ρ x = .int .u8 a) : (execOp ρ { o with op := .convert 5 46 x }).run Tryd.prog w = .ok (.value (.int .u32 a)) w := by
  obtain ⟨h3, h4⟩ := h
  have h5 : IntKind.u32.wrap a = a := by rw [IntKind.wrap_u32]; omega
  unfold execOp
  go_simp
theorem run_min_int (ρ : Operand → Value) (o : Oper) (x y : Operand) (w : World) (a b r : Int) (h : (a ≤ b ∧ r = a) ∨ (b ≤ a ∧ r = b)) (h1 : ρ x = .int .i64 a) (h2 : ρ y = .int .i64 b) : (execOp ρ { o with op := .call { callee := .builtin .min, args := #[x, y], argTypes := #[3, 3] } }).run Tryd.prog w = .ok (.value (.int .i64 r)) w := by
  have e : min a b = r := by rcases h with ⟨h, rfl⟩ | ⟨h, rfl⟩ <;> omega
  rw [← e]
  unfold execOp
  go_simp
end Go.Proofs.YtoplejeljmpcpaaDoor
