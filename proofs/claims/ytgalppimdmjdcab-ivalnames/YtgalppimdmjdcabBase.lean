/-
  What a slice of limbs is in memory: no function of the program yet.
-/
import Derived.Test.YtgalppimdmjdcabChecked
import Derived.Test.YtgalppimdmjdcabNums
import Derived.WalkKit
import Derived.ProofKit
import Derived.OpenShut
import Derived.Deep.QuietTactic
import Derived.BigQuiet
import Derived.Laws.CopyOwn
import Derived.WalkSmall
namespace Go.Proofs.Ytgalppimdmjdcab
open Go.RowKit Nt
set_option linter.unusedSimpArgs false
set_option linter.unusedVariables false

theorem hid {p : Prop} (h : p) : Hid p := h

/-- Limbs as cells. -/
def U (xs : List Nat) : List Value := xs.map fun (x : Nat) => Value.int .u32 (x : Int)

theorem U_length (xs : List Nat) : (U xs).length = xs.length := by simp [U]
theorem U_append (xs ys : List Nat) : U (xs ++ ys) = U xs ++ U ys := by simp [U]
theorem U_get (xs : List Nat) (i : Nat) (h : i < xs.length) : (U xs)[i]? = some (.int .u32 (xs.getD i 0)) := by
  simp [U, h]

/-- The slice that begins at p holds the limbs xs (an empty one may begin nowhere). -/
def Limbs (w : World) (p : Option Addr) (xs : List Nat) : Prop := ∀ i, i < xs.length → ∃ b o, p = some ⟨b, o, none⟩ ∧ w.cell? ⟨b, o + i, none⟩ = some (.int .u32 (xs.getD i 0))

theorem Limbs.nil (w : World) (p : Option Addr) : Limbs w p [] := fun i h => by simp at h

theorem Limbs.take {w : World} {p : Option Addr} {xs : List Nat} (h : Limbs w p xs) (k : Nat) : Limbs w p (xs.take k) := fun i hi => by
  have h1 : i < xs.length := by simp at hi; omega
  have h2 : i < k := by simp at hi; omega
  obtain ⟨b, o, e, hc⟩ := h i h1
  refine ⟨b, o, e, ?_⟩
  rw [hc]
  simp [h2]

/-- After 'trim': the digits. -/
theorem Limbs.digs {w : World} {p : Option Addr} {xs : List Nat} (h : Limbs w p xs) (ho : Ok xs) : Limbs w p (digs (val xs)) := by
  have hd := take_digs_val ho
  rw [← hd]
  exact h.take _

theorem cell_some_block {w : World} {a : Addr} {v : Value} (h : w.cell? a = some v) : a.block < w.heap.size := by
  apply Classical.byContradiction
  intro hc
  have : w.heap[a.block]? = none := by simp; omega
  simp [World.cell?, this] at h

theorem Limbs.below {w w' : World} {p : Option Addr} {xs : List Nat} (h : Limbs w p xs) (hb : Below w.heap.size w w') : Limbs w' p xs := fun i hi => by
  obtain ⟨b, o, e, hc⟩ := h i hi
  exact ⟨b, o, e, (hb.cell (p := ⟨b, o + i, none⟩) (cell_some_block hc)).trans hc⟩

/-- A part of a block whose cells are all limbs. -/
theorem Limbs.of_block {w : World} {g : Nat} {t : TypeId} {fr : Nat × Nat} {pre xs post : List Nat} (h : w.heap[g]? = some (.cells (U (pre ++ xs ++ post)).toArray t fr)) : Limbs w (some ⟨g, pre.length, none⟩) xs := fun i hi => by
  refine ⟨g, pre.length, rfl, ?_⟩
  have e := U_get (pre ++ xs ++ post) (pre.length + i) (by simp; omega)
  have e2 : (pre ++ xs ++ post).getD (pre.length + i) 0 = xs.getD i 0 := by
    rw [List.getD_eq_getElem?_getD, List.getD_eq_getElem?_getD, List.append_assoc, List.getElem?_append_right (by omega), List.getElem?_append_left (by omega)]
    congr 2; omega
  rw [e2] at e
  simp only [World.cell?, h]
  simpa [List.append_assoc] using e

/-- At a call inside a region that only reads: the draws add up. -/
theorem qcall {P : Program} {f : FuncId} {args : Array Value} {w : World} {v : Value} {k x : Nat}
    (h : Calls P f args (w.drewN (k + x)) fun e w' => e = .returned v ∧ w' = w.drewN (k + x)) : Calls P f args (w.drewN (k + x)) fun e w'' => e = .returned v ∧ ∃ n, w'' = w.drewN (k + n) :=
  h.mono fun _ _ ⟨he, hm⟩ => ⟨he, x, hm⟩
theorem qcallN {P : Program} {f : FuncId} {args : Array Value} {w : World} {v : Value} {k x : Nat}
    (h : Calls P f args (w.drewN (k + x)) fun e w' => e = .returned v ∧ ∃ m, w' = (w.drewN (k + x)).drewN m) : Calls P f args (w.drewN (k + x)) fun e w'' => e = .returned v ∧ ∃ n, w'' = w.drewN (k + n) :=
  h.mono fun _ _ ⟨he, m, hm⟩ => ⟨he, x + m, by rw [hm, World.drewN_drewN, Nat.add_assoc]⟩

theorem grown_drewN {W w : World} (h : Grown W w) (n : Nat) : Grown W (w.drewN n) := h
theorem below_drewN' {B : Nat} {W w : World} (h : Below B W w) (n : Nat) : Below B W (w.drewN n) := ⟨h.os, h.tape, h.output, h.size, h.block⟩

theorem dr0 (w : World) : ∃ n, w = w.drewN n := ⟨0, rfl⟩
theorem dr1 (w : World) (a : Nat) : ∃ n, w.drewN a = w.drewN n := ⟨a, rfl⟩
theorem dr2 (w : World) (a b : Nat) : ∃ n, (w.drewN a).drewN b = w.drewN n := ⟨a + b, by rw [World.drewN_drewN]⟩
theorem dr3 (w : World) (a b c : Nat) : ∃ n, ((w.drewN a).drewN b).drewN c = w.drewN n := ⟨a + (b + c), by rw [World.drewN_drewN, World.drewN_drewN]⟩

theorem addr_add (b o j : Nat) : (⟨b, o, none⟩ : Addr).add j = ⟨b, o + j, none⟩ := by
  unfold Addr.add
  split <;> simp_all

theorem add_zero_map (p : Option Addr) : p.map (fun a => a.add 0) = p := by
  cases p <;> simp [Addr.add]

theorem ret_slice {p q : Option Addr} {k n c d : Nat} (h1 : p = q) (h2 : k = n) (h3 : c = d) : Ending.returned (.slice p k c) = .returned (.slice q n d) := by rw [h1, h2, h3]
theorem ret_int {k : IntKind} {a b : Int} (h : a = b) : Ending.returned (.int k a) = .returned (.int k b) := by rw [h]

end Go.Proofs.Ytgalppimdmjdcab
