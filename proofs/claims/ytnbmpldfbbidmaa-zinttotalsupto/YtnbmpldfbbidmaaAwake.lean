/-
  The law's own helpers: same, awake; and what awake calls: word, ofWord, Div of small numbers, Text of 0.
-/
import Derived.Test.YtnbmpldfbbidmaaSetA
namespace Go.Proofs.Ytnbmpldfbbidmaa
open Go.RowKit Nt
set_option linter.unusedSimpArgs false
set_option linter.unusedVariables false

theorem or64 (a b : Nat) (ha : a < 4294967296) (hb : b < 4294967296) : bits .or .u64 (a : Int) ((b : Int) * 4294967296) = ((a + 4294967296 * b : Nat) : Int) := by
  have e : ((b : Int) * 4294967296) = ((b * 4294967296 : Nat) : Int) := by omega
  rw [e, u64_or_nat a (b * 4294967296) (by omega) (by omega)]
  have : a ||| b * 4294967296 = b * 4294967296 + a := by
    rw [Nat.or_comm, show (4294967296 : Nat) = 2 ^ 32 from rfl, ← Nat.shiftLeft_eq, Nat.shiftLeft_add_eq_or_of_lt (by omega)]
  rw [this]
  omega
theorem or64_zero (b : Nat) (hb : b < 4294967296) : bits .or .u64 0 (b : Int) = (b : Int) := by
  have := u64_or_nat 0 b (by omega) (by omega)
  simpa using this
/-- the other way round -/
theorem or64' (a b : Nat) (ha : a < 4294967296) (hb : b < 4294967296) : bits .or .u64 ((b : Int) * 4294967296) (a : Int) = ((a + 4294967296 * b : Nat) : Int) := by
  have e : ((b : Int) * 4294967296) = ((b * 4294967296 : Nat) : Int) := by omega
  rw [e, u64_or_nat (b * 4294967296) a (by omega) (by omega)]
  have : b * 4294967296 ||| a = b * 4294967296 + a := by
    rw [show (4294967296 : Nat) = 2 ^ 32 from rfl, ← Nat.shiftLeft_eq, Nat.shiftLeft_add_eq_or_of_lt (by omega)]
  rw [this]
  omega

theorem heap_alloc_old' (w : World) (o : Obj) (k : Nat) (h : k < w.heap.size) : (w.alloc o).heap[k]? = w.heap[k]? := Below.heap_alloc w o k h

theorem blk_one {w : World} {g x : Nat} {z : Int} (hz : z = x) (h : w.heap[g]? = some (.cells #[.int .u32 z] 30 (0, 0))) : Blk w g [x] := by
  subst hz
  exact h

theorem sl_one {w : World} {g x : Nat} (h : Blk w g [x]) (hx : x < 4294967296) : Sl w (some ⟨g, 0, none⟩) 1 1 [x] := ⟨rfl, by omega, by unfold maxLen; omega, (fun e => by cases e), Ok.cons hx Ok.nil, h.limbs⟩

theorem digs_small {x : Nat} (h0 : x ≠ 0) (hx : x < 4294967296) : digs x = [x] := by
  have := digs_of (xs := [x]) (Ok.cons hx Ok.nil) (Or.inr (by simpa using h0))
  rwa [val_one] at this

theorem val_lt_two {xs : List Nat} (ho : Ok xs) (h : xs.length ≤ 2) : val xs < 18446744073709551616 := by
  have h1 := val_lt ho
  have h2 : 4294967296 ^ xs.length ≤ 4294967296 ^ 2 := Nat.pow_le_pow_right (by omega) h
  omega

end Go.Proofs.Ytnbmpldfbbidmaa
