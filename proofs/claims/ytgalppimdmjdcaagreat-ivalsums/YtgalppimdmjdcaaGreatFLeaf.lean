/-
  The calls of package math and of ival that take floats by their bits and hand back floats or bools.
-/
import Derived.Test.YtgalppimdmjdcaaGreatSetA
import Derived.Test.YtgalppimdmjdcaaGreatFPlace
import Derived.Laws.Externs
import Derived.Laws.Cover2
import Derived.Laws.FloatArith
import Derived.Handy
namespace Go.Proofs.YtgalppimdmjdcaaGreat
open Go.RowKit Nt
set_option linter.unusedSimpArgs false
set_option linter.unusedVariables false
set_option maxRecDepth 20000

theorem run_bits (b : Nat) (w : World) : (callFunc 75 #[.float .f64 b]).run Tryz.prog w = .ok (.value (.int .u64 (b : Int))) w := by
  rw [run_callFunc_extern (e := Extern.MathFloatBits.float64bits) Tryz.func75 (by kernel_rfl) (by kernel_rfl) (by kernel_rfl) (by kernel_rfl)]
  rfl
theorem run_frombits (n : Int) (w : World) : (callFunc 7 #[.int .u64 n]).run Tryz.prog w = .ok (.value (.float .f64 n.toNat)) w := by
  rw [run_callFunc_extern (e := Extern.MathFloatBits.float64frombits) Tryz.func7 (by kernel_rfl) (by kernel_rfl) (by kernel_rfl) (by kernel_rfl)]
  rfl
theorem wrap_u64 {x : Nat} (h : x < 18446744073709551616) : IntKind.u64.wrap (x : Int) = x := by
  simp [IntKind.wrap, IntKind.bits, IntKind.signed]; omega
theorem ofInt_nat (b : Nat) : BitVec.ofInt 64 (b : Int) = BitVec.ofNat 64 b := by simp
/-- A word without its topmost bit. -/
theorem andNot_top (b : Nat) (hb : b < 18446744073709551616) : b &&& 9223372036854775807 = b % 9223372036854775808 := by
  rw [show (9223372036854775807 : Nat) = 2 ^ 63 - 1 from rfl, Nat.and_two_pow_sub_one_eq_mod]
theorem bits_top (b : Nat) (hb : b < 18446744073709551616) : bits BinOp.andNot IntKind.u64 (b : Int) 9223372036854775808 = ((b % 9223372036854775808 : Nat) : Int) := by
  have e : (BitVec.ofInt IntKind.u64.bits (b : Int) &&& ~~~ BitVec.ofInt IntKind.u64.bits 9223372036854775808).toNat = b % 9223372036854775808 := by
    show (BitVec.ofInt 64 (b : Int) &&& 9223372036854775807#64).toNat = _
    rw [ofInt_nat, BitVec.toNat_and, BitVec.toNat_ofNat, Nat.mod_eq_of_lt (by omega)]
    exact andNot_top b hb
  show IntKind.u64.wrap (((BitVec.ofInt IntKind.u64.bits (b : Int) &&& ~~~ BitVec.ofInt IntKind.u64.bits 9223372036854775808).toNat : Nat) : Int) = _
  rw [e, wrap_u64 (by omega)]

/-- A call that hands back this value and leaves the world as it was. -/
def Pur (f : FuncId) (args : Array Value) (v : Value) : Prop := ∀ w, Calls Tryz.prog f args w fun e w' => e = .returned v ∧ w' = w

theorem abs_p (b : Nat) (hb : b < 18446744073709551616) : Pur 62 #[.float .f64 b] (.float .f64 (b % 9223372036854775808)) := by
  intro w
  have h1 := fun W => run_bits b W
  have h2 := fun n W => run_frombits n W
  have h3 := bits_top b hb
  go_enter Tryz.func62, Tryz.ntmps62
  go_wp2
  go_ret
  exact ⟨rfl, rfl⟩
theorem sign_p (b : Nat) (hb : b < 18446744073709551616) : Pur 82 #[.float .f64 b] (.bool (decide (9223372036854775808 ≤ b))) := by
  intro w
  have h1 := fun W => run_bits b W
  go_enter Tryz.func82, Tryz.ntmps82
  go_wp2
  go_ret
  refine ⟨?_, rfl⟩
  show Ending.returned (Value.bool (decide (wrap64 (b : Int) < 0))) = _
  congr 2
  unfold wrap64
  exact decide_eq_decide.2 (by omega)
theorem isnan_p (b : Nat) : Pur 33 #[.float .f64 b] (.bool (plc b).isNone) := by
  intro w
  have ho : ((FloatKind.format .f64).order b b != some Ordering.eq) = (plc b).isNone := by
    show ((Ieee.double).order b b != some Ordering.eq) = _
    rw [order_plc]; cases plc b <;> simp [ordP]
  go_enter Tryz.func33, Tryz.ntmps33
  go_wp2
  go_ret
  rw [← ho]
  exact ⟨rfl, rfl⟩
theorem inf_p (n : Int) (hn : n = 1 ∨ n = -1) : Pur 85 #[.int .i64 n] (.float .f64 (if n = 1 then 9218868437227405312 else 18442240474082181120)) := by
  intro w
  have h2 := fun n W => run_frombits n W
  rcases hn with rfl | rfl
  · go_enter Tryz.func85, Tryz.ntmps85
    go_wp2
    go_ret
    exact ⟨rfl, rfl⟩
  · go_enter Tryz.func85, Tryz.ntmps85
    go_wp2
    go_ret
    exact ⟨rfl, rfl⟩
end Go.Proofs.YtgalppimdmjdcaaGreat
