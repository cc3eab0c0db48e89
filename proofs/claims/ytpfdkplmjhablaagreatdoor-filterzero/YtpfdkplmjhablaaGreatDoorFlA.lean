import Derived.Laws.FloatArith
import Derived.Test.YtpfdkplmjhablaaGreatDoorSetA
import Derived.Laws.Externs
import Derived.Laws.Cover2
import Derived.Handy
import Derived.Test.YtpfdkplmjhablaaGreatDoorGsA
import Derived.Test.YtpfdkplmjhablaaGreatDoorSetQ
/-
 Floats by their places: each float that is no NaN has a place, a whole number; both noughts have one; floats stand to each other as their places do.
-/
namespace Go.Proofs.YtpfdkplmjhablaaGreatDoor
open Go
set_option linter.unusedSimpArgs false
set_option linter.unusedVariables false
set_option maxRecDepth 20000

/-- The place of a float: none of a NaN. -/
def plc (b : Nat) : Option Int :=
 if b % 9223372036854775808 ≤ 9218868437227405312 then
  some (if b / 9223372036854775808 % 2 = 1 then -((b % 9223372036854775808 : Nat) : Int) else ((b % 9223372036854775808 : Nat) : Int))
 else none
/-- The magnitude at a place from nought on, in units of the least float. -/
def mg (r : Nat) : Nat := if r < 4503599627370496 then r else (4503599627370496 + r % 4503599627370496) * 2 ^ (r / 4503599627370496 - 1)
/-- The number at a place. -/
def vp (p : Int) : Int := if p < 0 then -(mg p.natAbs : Int) else mg p.natAbs

end Go.Proofs.YtpfdkplmjhablaaGreatDoor

/-
 The calls of package math and of ival that take floats by their bits and hand back floats or bools.
-/
namespace Go.Proofs.YtpfdkplmjhablaaGreatDoor
open Go.RowKit Nt
set_option linter.unusedSimpArgs false
set_option linter.unusedVariables false
set_option maxRecDepth 20000

theorem run_bits (b : Nat) (w : World) : (callFunc 25 #[.float .f64 b]).run Tryz.prog w = .ok (.value (.int .u64 (b : Int))) w := by
 rw [run_callFunc_extern (e := Extern.MathFloatBits.float64bits) Tryz.func25 (by kernel_rfl) (by kernel_rfl) (by kernel_rfl) (by kernel_rfl)]
 rfl
theorem wrap_u64 {x : Nat} (h : x < 18446744073709551616) : IntKind.u64.wrap (x : Int) = x := by
 simp [IntKind.wrap, IntKind.bits, IntKind.signed]; omega
/-- A call that hands back this value and leaves the world as it was. -/
def Pur (f : FuncId) (args : Array Value) (v : Value) : Prop := ∀ w, Calls Tryz.prog f args w fun e w' => e = .returned v ∧ w' = w

end Go.Proofs.YtpfdkplmjhablaaGreatDoor

/-
 Places and steps: the program's Down and Up, the document's, and their helpers.
-/
namespace Go.Proofs.YtpfdkplmjhablaaGreatDoor
open Go.RowKit Nt
set_option linter.unusedSimpArgs false
set_option linter.unusedVariables false
set_option maxRecDepth 20000

/-- What the program takes for a float's place. -/
def pl (b : Nat) : Int := if 9223372036854775808 ≤ b then -((b % 9223372036854775808 : Nat) : Int) else ((b % 9223372036854775808 : Nat) : Int)
/-- A call that hands back a float of that place. -/
def PurF (f : FuncId) (args : Array Value) (p : Option Int) : Prop := ∃ r, r < 18446744073709551616 ∧ plc r = p ∧ Pur f args (.float .f64 r)

end Go.Proofs.YtpfdkplmjhablaaGreatDoor

/-
 Down and Up, the program's and the document's; low, high, equal.
-/
namespace Go.Proofs.YtpfdkplmjhablaaGreatDoor
open Go.RowKit Nt
set_option linter.unusedSimpArgs false
set_option linter.unusedVariables false
set_option maxRecDepth 20000

end Go.Proofs.YtpfdkplmjhablaaGreatDoor

/-
 The document's Down, low and high; the law's equal.
-/
namespace Go.Proofs.YtpfdkplmjhablaaGreatDoor
open Go.RowKit Nt
set_option linter.unusedSimpArgs false
set_option linter.unusedVariables false
set_option maxRecDepth 20000

end Go.Proofs.YtpfdkplmjhablaaGreatDoor

/-
 Floats and intervals in the logic of statements.
-/
namespace Go.Proofs.YtpfdkplmjhablaaGreatDoor
open Go Go.RowKit Nt
set_option linter.unusedSimpArgs false
set_option linter.unusedVariables false
set_option maxRecDepth 20000

/-- A float of that place. -/
def FL (p : Option Int) : Pr := fun v _ => ∃ b, v = .float .f64 b ∧ b < 18446744073709551616 ∧ plc b = p
def FLN (p : Option Int) : Nat → Pr := fun _ => FL p
theorem sf_mk {φ ψ : Pr} {x y : Nat} {w : World} (h1 : φ (.float .f64 x) w) (h2 : ψ (.float .f64 y) w) : SF [φ, ψ] (.agg #[.float .f64 x, .float .f64 y]) w := by
 refine ⟨_, rfl, rfl, by simp [Value.oneCell'], fun f q hq => ?_⟩
 match f, hq with
 | 0, hq => simp at hq; subst hq; exact ⟨_, rfl, h1⟩
 | 1, hq => simp at hq; subst hq; exact ⟨_, rfl, h2⟩
theorem ix_mk {x y : Nat} {w : World} : SF [Is (.float .f64 x), Is (.float .f64 y)] (.agg #[.float .f64 x, .float .f64 y]) w := sf_mk rfl rfl
/-! What calls give. -/
theorem Pur.gives {f : FuncId} {args : Array Value} {v : Value} (h : Pur f args v) (w : World) : Calls Tryz.prog f args w (Gives (IS v) w) := (h w).mono fun e w' ⟨he, hw⟩ => by subst hw; exact ⟨v, he, Below.refl _ _, rfl⟩
theorem PurF.gives {f : FuncId} {args : Array Value} {p : Option Int} (h : PurF f args p) (w : World) : Calls Tryz.prog f args w (Gives (FLN p) w) := by
 obtain ⟨r, h1, h2, h3⟩ := h
 exact (h3 w).mono fun e w' ⟨he, hw⟩ => by subst hw; exact ⟨_, he, Below.refl _ _, r, rfl, h1, h2⟩
/-! The struct's rules. -/
theorem strct_ival : Strct 57 2 := ⟨⟨_, Tryz.underlying57, rfl⟩, by kernel_rfl⟩
theorem shp_i0 : Shp 2 (Is (.agg #[.float .f64 0, .float .f64 0])) := fun u w h => ⟨_, h, rfl, by simp [Value.oneCell']⟩
theorem shp_iv {p q : Pr} : Shp 2 (SF [p, q]) := shp_sf (ps := [p, q])
theorem alloc_ival (ρ : Operand → Value) (o : Oper) (w : World) : (execOp ρ { o with op := .alloc 57 }).run Tryz.prog w = .ok (.value (.pointer (some ⟨w.heap.size, 0, none⟩))) (w.alloc (.cells (Value.agg #[.float .f64 0, .float .f64 0]).cells 57 (0, 0))) := by
  unfold execOp
  go_simp
theorem part_ival0 (ρ : Operand → Value) (o : Oper) (x : Operand) (w : World) (b f : Nat) (h : ρ x = .pointer (some ⟨b, f, none⟩)) : (execOp ρ { o with op := .fieldAddr 57 x 0 }).run Tryz.prog w = .ok (.value (.pointer (some ⟨b, f, none⟩))) w := by
  unfold execOp
  go_simp
theorem part_ival1 (ρ : Operand → Value) (o : Oper) (x : Operand) (w : World) (b f : Nat) (h : ρ x = .pointer (some ⟨b, f, none⟩)) : (execOp ρ { o with op := .fieldAddr 57 x 1 }).run Tryz.prog w = .ok (.value (.pointer (some ⟨b, f + 1, none⟩))) w := by
  unfold execOp
  go_simp
theorem load1_f64 : Load1 55 := fun ρ w o x b f u hx hc => by
  unfold execOp
  go_simp
theorem ploadI {ps : List Pr} {χ : Pr} {f : Nat} {T T' : TypeId} (hp : ps[f]? = some χ) (hL : Load1 T') (ρ : Operand → Value) (o : Oper) (x : Operand) (w : World) (b : Nat) (u : Value) (hφ : SF ps u w) (hx : ρ x = .pointer (some ⟨b, f, none⟩)) (hb : w.heap[b]? = some (.cells u.cells T (0, 0))) :
  ∃ v, (execOp ρ { o with op := .load T' x }).run Tryz.prog w = .ok (.value v) w ∧ ∀ w', SF ps u w' → χ v w' := by
 obtain ⟨cs, rfl, h1, h2, h3⟩ := hφ
 obtain ⟨v, hv, _⟩ := h3 f χ hp
 refine ⟨v, hL ρ w o x b f v hx (sf_cell hb hv), fun w' h' => ?_⟩
 obtain ⟨_, _, h4⟩ := h'.get
 obtain ⟨v', hv', hχ⟩ := h4 f χ hp
 rw [hv] at hv'
 cases hv'
 exact hχ
section
variable {ops : Array Oper} {l : List Kd} {bx : Bxs} {sl : List (Tmp × Pr)} {i : Nat} {o : Oper} {Q : Exit → Act → World → Prop} {a0 : Act} {n : Nat} {w0 : World}
theorem owe_build_iv0 (ho : ops[i]? = some o) (hw : Wants ops l bx sl i o) (hop : o.op = .build 57 #[]) (hk : kdAt l i = .val (SF [Is (.float .f64 0), Is (.float .f64 0)])) : Owed Tryz.prog ops Q l bx sl a0 n w0 i :=
  owe_val ho hw hk fun vs B a w c => by
    refine ⟨.agg #[.float .f64 0, .float .f64 0], ?_, fun _ _ => ix_mk⟩
    unfold execOp
    rw [hop]
    go_simp
end
end Go.Proofs.YtpfdkplmjhablaaGreatDoor
