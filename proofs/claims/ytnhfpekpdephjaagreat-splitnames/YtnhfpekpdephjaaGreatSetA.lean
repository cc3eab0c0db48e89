import Derived.Test.YtnhfpekpdephjaaGreatChecked
import Derived.WalkKit
import Derived.ProofKit
import Derived.OpenShut
import Derived.Deep.QuietTactic
import Derived.BigQuiet
import Derived.Laws.CopyOwn
import Derived.WalkSmall
import Derived.Deep.WholeRow
import Derived.Test.YtnhfpekpdephjaaGreatRows
import Derived.SizedLaws
/-
 Plain mathematics, no Go: numbers as lists of limbs of 32 bits, the lowest first; the one list without noughts at its end.
-/
namespace Go.Proofs.YtnhfpekpdephjaaGreat.Nt

/-- What limbs are worth. -/
def val : List Nat → Nat
 | [] => 0
 | x :: r => x + 4294967296 * val r

def digsF : Nat → Nat → List Nat
 | 0, _ => []
 | f + 1, n => if n = 0 then [] else n % 4294967296 :: digsF f (n / 4294967296)
/-- The limbs of a number, without noughts at the end. -/
def digs (n : Nat) : List Nat := digsF n n

/-- Each limb is below 2^32. -/
def Ok (xs : List Nat) : Prop := ∀ x ∈ xs, x < 4294967296

theorem Ok.nil : Ok [] := fun x h => by cases h
theorem Ok.cons {x : Nat} {r : List Nat} (h : x < 4294967296) (k : Ok r) : Ok (x :: r) := fun y hy => by
 rcases List.mem_cons.1 hy with rfl | h'
 ·exact h
 ·exact k y h'
theorem Ok.head {x : Nat} {r : List Nat} (h : Ok (x :: r)) : x < 4294967296 := h x (by simp)
theorem Ok.tail {x : Nat} {r : List Nat} (h : Ok (x :: r)) : Ok r := fun y hy => h y (by simp [hy])
theorem Ok.append {xs ys : List Nat} (h : Ok xs) (k : Ok ys) : Ok (xs ++ ys) := fun x hx => by
 rcases List.mem_append.1 hx with h' | h'
 ·exact h x h'
 ·exact k x h'
theorem Ok.left {xs ys : List Nat} (h : Ok (xs ++ ys)) : Ok xs := fun x hx => h x (by simp [hx])
theorem Ok.right {xs ys : List Nat} (h : Ok (xs ++ ys)) : Ok ys := fun x hx => h x (by simp [hx])
theorem Ok.take {xs : List Nat} (h : Ok xs) (k : Nat) : Ok (xs.take k) := fun x hx => h x (List.mem_of_mem_take hx)
theorem Ok.drop {xs : List Nat} (h : Ok xs) (k : Nat) : Ok (xs.drop k) := fun x hx => h x (List.mem_of_mem_drop hx)
theorem Ok.getD {xs : List Nat} (h : Ok xs) (i : Nat) : xs.getD i 0 < 4294967296 := by
 by_cases hi : i < xs.length
 ·rw [List.getD_eq_getElem?_getD, List.getElem?_eq_getElem hi]
  exact h _ (List.getElem_mem hi)
 ·rw [List.getD_eq_getElem?_getD, List.getElem?_eq_none (by omega)]
  simp
theorem Ok.replicate (k : Nat) : Ok (List.replicate k 0) := fun x hx => by
 rw [(List.mem_replicate.1 hx).2]; omega

theorem val_append (xs ys : List Nat) : val (xs ++ ys) = val xs + 4294967296 ^ xs.length * val ys := by
 induction xs with
 | nil => simp [val]
 | cons x r ih =>
  simp only [List.cons_append, val, ih, List.length_cons, Nat.pow_succ]
  rw [Nat.mul_add, Nat.mul_comm (4294967296 ^ r.length) 4294967296, Nat.mul_assoc]
  omega

theorem val_replicate (k : Nat) : val (List.replicate k 0) = 0 := by
 induction k with
 | zero => rfl
 | succ k ih => simp [List.replicate_succ, val, ih]

theorem val_one (x : Nat) : val [x] = x := by simp [val]

theorem val_lt {xs : List Nat} (h : Ok xs) : val xs < 4294967296 ^ xs.length := by
 induction xs with
 | nil => simp [val]
 | cons x r ih =>
  have h1 := h.head
  have h2 := ih h.tail
  simp only [val, List.length_cons, Nat.pow_succ]
  have h3 : 4294967296 * (val r + 1) ≤ 4294967296 * 4294967296 ^ r.length := Nat.mul_le_mul_left _ h2
  rw [Nat.mul_comm (4294967296 ^ r.length)]
  omega

theorem val_take_succ (xs : List Nat) (k : Nat) (h : k < xs.length) : val (xs.take (k + 1)) = val (xs.take k) + 4294967296 ^ k * xs.getD k 0 := by
 rw [List.take_succ_eq_append_getElem h, val_append, List.length_take, Nat.min_eq_left (by omega)]
 simp [val, h]

theorem val_split (xs : List Nat) (k : Nat) (h : k ≤ xs.length) : val xs = val (xs.take k) + 4294967296 ^ k * val (xs.drop k) := by
 have := val_append (xs.take k) (xs.drop k)
 rw [List.take_append_drop, List.length_take, Nat.min_eq_left h] at this
 exact this

theorem digsF_val : ∀ (f n : Nat), n ≤ f → val (digsF f n) = n
 | 0, n, h => by simp [digsF, val]; omega
 | f + 1, n, h => by
  unfold digsF
  by_cases h0 : n = 0
  ·simp [h0, val]
  ·simp only [h0, if_false, val]
   rw [digsF_val f (n / 4294967296) (by omega)]
   omega

theorem digsF_ok : ∀ (f n : Nat), Ok (digsF f n)
 | 0, n => Ok.nil
 | f + 1, n => by
  unfold digsF
  by_cases h0 : n = 0
  ·simp only [h0, if_true]; exact Ok.nil
  ·simp only [h0, if_false]; exact Ok.cons (Nat.mod_lt _ (by omega)) (digsF_ok f _)

theorem val_digs (n : Nat) : val (digs n) = n := digsF_val n n (Nat.le_refl _)
theorem ok_digs (n : Nat) : Ok (digs n) := digsF_ok n n
theorem digs_zero : digs 0 = [] := rfl

/-- A list of limbs is in one form: its last limb is not 0. -/
def Top (xs : List Nat) : Prop := xs = [] ∨ xs.getD (xs.length - 1) 0 ≠ 0

theorem Top.tail {x : Nat} {r : List Nat} (h : Top (x :: r)) : Top r := by
 rcases h with h | h
 ·cases h
 ·cases r with
  | nil => exact Or.inl rfl
  | cons y s => exact Or.inr (by simpa using h)

theorem val_pos {xs : List Nat} (h : Top xs) (hne : xs ≠ []) : 0 < val xs := by
 induction xs with
 | nil => exact absurd rfl hne
 | cons x r ih =>
  simp only [val]
  cases r with
  | nil =>
   rcases h with h | h
   ·cases h
   ·simp at h; omega
  | cons y s => have := ih h.tail (by simp); omega

theorem digsF_of : ∀ (f : Nat) (xs : List Nat), Ok xs → Top xs → val xs ≤ f → digsF f (val xs) = xs
 | 0, xs, _, ht, hf => by
  cases xs with
  | nil => rfl
  | cons x r => have := val_pos ht (by simp); omega
 | f + 1, xs, ho, ht, hf => by
  cases xs with
  | nil => rfl
  | cons x r =>
   have hp := val_pos ht (by simp)
   have hx := ho.head
   unfold digsF
   rw [if_neg (by omega)]
   have e1 : val (x :: r) % 4294967296 = x := by simp only [val]; omega
   have e2 : val (x :: r) / 4294967296 = val r := by simp only [val]; omega
   rw [e1, e2, digsF_of f r ho.tail ht.tail (by simp only [val] at hp hf; omega)]

theorem digs_of {xs : List Nat} (ho : Ok xs) (ht : Top xs) : digs (val xs) = xs := digsF_of _ _ ho ht (Nat.le_refl _)

theorem digs_eq {xs : List Nat} {n : Nat} (ho : Ok xs) (ht : Top xs) (h : val xs = n) : xs = digs n := by rw [← h, digs_of ho ht]

theorem digsF_top : ∀ (f n : Nat), n ≤ f → Top (digsF f n)
 | 0, n, h => Or.inl rfl
 | f + 1, n, h => by
  unfold digsF
  by_cases h0 : n = 0
  ·simp only [h0, if_true]; exact Or.inl rfl
  ·simp only [h0, if_false]
   have ih := digsF_top f (n / 4294967296) (by omega)
   cases hr : digsF f (n / 4294967296) with
   | nil =>
    right
    have hv := digsF_val f (n / 4294967296) (by omega)
    rw [hr] at hv
    simp only [val] at hv
    simp
    omega
   | cons y s =>
    rw [hr] at ih
    rcases ih with ih | ih
    ·cases ih
    ·exact Or.inr (by simpa using ih)
theorem top_digs (n : Nat) : Top (digs n) := digsF_top n n (Nat.le_refl _)

/-- What 'trim' finds: the place behind which there are noughts alone. -/
theorem take_digs {xs : List Nat} {k : Nat} (ho : Ok xs) (hk : k ≤ xs.length) (hz : ∀ j, k ≤ j → j < xs.length → xs.getD j 0 = 0) (ht : k = 0 ∨ xs.getD (k - 1) 0 ≠ 0) : xs.take k = digs (val xs) := by
 have hd : xs.drop k = List.replicate (xs.length - k) 0 := by
  apply List.ext_getElem (by simp)
  intro i h1 h2
  simp only [List.getElem_drop, List.getElem_replicate]
  have hi : k + i < xs.length := by simp at h1; omega
  have := hz (k + i) (by omega) hi
  simpa [hi] using this
 apply digs_eq (ho.take k)
 ·rcases ht with rfl | ht
  ·exact Or.inl (by simp)
  ·by_cases h0 : k = 0
   ·exact Or.inl (by simp [h0])
   right
   have : (xs.take k).length = k := by simp [hk]
   rw [this]
   have hlt : k - 1 < xs.length := by omega
   have h2 : k - 1 < k := by omega
   simpa [List.getD_eq_getElem?_getD, List.getElem?_take, h2] using ht
 ·rw [val_split xs k hk, hd, val_replicate]; simp

theorem digs_length_le {n k : Nat} (h : n < 4294967296 ^ k) : (digs n).length ≤ k := by
 by_cases hc : (digs n).length ≤ k
 ·exact hc
 exfalso
 have ht := top_digs n
 have hv := val_digs n
 generalize digs n = xs at *
 rcases ht with rfl | ht
 ·simp at hc
 have h1 := val_split xs (xs.length - 1) (by omega)
 have h2 : xs.drop (xs.length - 1) = [xs.getD (xs.length - 1) 0] := by
  apply List.ext_getElem
  ·simp; omega
  ·intro i h3 h4
   simp at h4
   subst h4
   have : xs.length - 1 < xs.length := by omega
   simp [this]
 rw [h2, val_one] at h1
 have h3 : 4294967296 ^ k ≤ 4294967296 ^ (xs.length - 1) := Nat.pow_le_pow_right (by omega) (by omega)
 have h4 : 4294967296 ^ (xs.length - 1) * 1 ≤ 4294967296 ^ (xs.length - 1) * xs.getD (xs.length - 1) 0 := Nat.mul_le_mul_left _ (by omega)
 omega

theorem lt_pow_digs (n : Nat) : n < 4294967296 ^ (digs n).length := by
 have := val_lt (ok_digs n)
 rwa [val_digs] at this

theorem digs_length_mono {n m : Nat} (h : n ≤ m) : (digs n).length ≤ (digs m).length := digs_length_le (Nat.lt_of_le_of_lt h (lt_pow_digs m))

theorem digs_le_length {xs : List Nat} (ho : Ok xs) : (digs (val xs)).length ≤ xs.length := digs_length_le (val_lt ho)

theorem digs_length_zero (n : Nat) : (digs n).length = 0 ↔ n = 0 := by
 constructor
 ·intro h
  have := lt_pow_digs n
  rw [h] at this
  simpa using this
 ·intro h; subst h; rfl

theorem digs_inj {n m : Nat} (h : digs n = digs m) : n = m := by rw [← val_digs n, h, val_digs]

theorem pow_le_digs {n : Nat} (h : n ≠ 0) : 4294967296 ^ ((digs n).length - 1) ≤ n := by
 apply Classical.byContradiction
 intro hc
 have := digs_length_le (Nat.lt_of_not_le hc)
 have h0 : (digs n).length ≠ 0 := fun e => h ((digs_length_zero n).1 e)
 omega


/-- The digits are what the limbs begin with. -/
theorem take_digs_val {xs : List Nat} (ho : Ok xs) : xs.take (digs (val xs)).length = digs (val xs) := by
 have hl := digs_le_length ho
 have e := val_split xs _ hl
 have hlt := lt_pow_digs (val xs)
 have hz : val (xs.drop (digs (val xs)).length) = 0 := by
  apply Classical.byContradiction
  intro hne
  have : 4294967296 ^ (digs (val xs)).length * 1 ≤ 4294967296 ^ (digs (val xs)).length * val (xs.drop (digs (val xs)).length) := Nat.mul_le_mul_left _ (by omega)
  omega
 rw [hz] at e
 have hv : val (xs.take (digs (val xs)).length) = val xs := by simp at e; exact e.symm
 have hok := ho.take (digs (val xs)).length
 have hlen : (xs.take (digs (val xs)).length).length = (digs (val xs)).length := by simp [hl]
 apply digs_eq hok _ hv
 by_cases h0 : (digs (val xs)).length = 0
 ·left
  rw [List.length_eq_zero_iff.1 h0]; simp
 right
 rw [hlen]
 intro htop
 -- with a nought at the top the value would be shorter
 have hk := val_split (xs.take (digs (val xs)).length) ((digs (val xs)).length - 1) (by omega)
 have hdrop : (xs.take (digs (val xs)).length).drop ((digs (val xs)).length - 1) = [0] := by
  apply List.ext_getElem
  ·simp only [List.length_drop, hlen, List.length_cons, List.length_nil]; omega
  ·intro i h3 h4
   simp at h4
   subst h4
   have hlt2 : (digs (val xs)).length - 1 < (xs.take (digs (val xs)).length).length := by omega
   rw [List.getElem_drop, List.getElem_singleton]
   rw [List.getD_eq_getElem?_getD, List.getElem?_eq_getElem hlt2] at htop
   simpa using htop
 rw [hdrop] at hk
 have hshort := val_lt (hok.take ((digs (val xs)).length - 1))
 rw [List.length_take, hlen, Nat.min_eq_left (by omega)] at hshort
 rw [hv] at hk
 simp only [val, Nat.mul_zero, Nat.add_zero] at hk
 rw [← hk] at hshort
 have := digs_length_le hshort
 omega

end Go.Proofs.YtnhfpekpdephjaaGreat.Nt

/-
 What a slice of limbs is in memory: no function of the program yet.
-/
namespace Go.Proofs.YtnhfpekpdephjaaGreat
open Go.RowKit Nt
set_option linter.unusedSimpArgs false
set_option linter.unusedVariables false
set_option maxRecDepth 20000

theorem hid {p : Prop} (h : p) : Hid p := h

/-- Limbs as cells. -/
def U (xs : List Nat) : List Value := xs.map fun (x : Nat) => Value.int .u32 (x : Int)

theorem U_length (xs : List Nat) : (U xs).length = xs.length := by simp [U]
theorem U_append (xs ys : List Nat) : U (xs ++ ys) = U xs ++ U ys := by simp [U]
theorem U_get (xs : List Nat) (i : Nat) (h : i < xs.length) : (U xs)[i]? = some (.int .u32 (xs.getD i 0)) := by
 simp [U, h]

/-- The slice that begins at p holds the limbs xs (an empty one may begin nowhere). -/
def Limbs (w : World) (p : Option Addr) (xs : List Nat) : Prop := ∀ i, i < xs.length → ∃ b o, p = some ⟨b, o, none⟩ ∧ w.cell? ⟨b, o + i, none⟩ = some (.int .u32 (xs.getD i 0))

theorem Limbs.nil (w : World) (p : Option Addr) : Limbs w p [] := fun i h => by simp at h

theorem Limbs.take {w : World} {p : Option Addr} {xs : List Nat} (h : Limbs w p xs) (k : Nat) : Limbs w p (xs.take k) := fun i hi => by
 have h1 : i < xs.length := by simp at hi; omega
 have h2 : i < k := by simp at hi; omega
 obtain ⟨b, o, e, hc⟩ := h i h1
 refine ⟨b, o, e, ?_⟩
 rw [hc]
 simp [h2]

/-- After 'trim': the digits. -/
theorem Limbs.digs {w : World} {p : Option Addr} {xs : List Nat} (h : Limbs w p xs) (ho : Ok xs) : Limbs w p (digs (val xs)) := by
 have hd := take_digs_val ho
 rw [← hd]
 exact h.take _

theorem cell_some_block {w : World} {a : Addr} {v : Value} (h : w.cell? a = some v) : a.block < w.heap.size := by
 apply Classical.byContradiction
 intro hc
 have : w.heap[a.block]? = none := by simp; omega
 simp [World.cell?, this] at h

theorem Limbs.below {w w' : World} {p : Option Addr} {xs : List Nat} (h : Limbs w p xs) (hb : Below w.heap.size w w') : Limbs w' p xs := fun i hi => by
 obtain ⟨b, o, e, hc⟩ := h i hi
 exact ⟨b, o, e, (hb.cell (p := ⟨b, o + i, none⟩) (cell_some_block hc)).trans hc⟩

/-- A part of a block whose cells are all limbs. -/
theorem Limbs.of_block {w : World} {g : Nat} {t : TypeId} {fr : Nat × Nat} {pre xs post : List Nat} (h : w.heap[g]? = some (.cells (U (pre ++ xs ++ post)).toArray t fr)) : Limbs w (some ⟨g, pre.length, none⟩) xs := fun i hi => by
 refine ⟨g, pre.length, rfl, ?_⟩
 have e := U_get (pre ++ xs ++ post) (pre.length + i) (by simp; omega)
 have e2 : (pre ++ xs ++ post).getD (pre.length + i) 0 = xs.getD i 0 := by
  rw [List.getD_eq_getElem?_getD, List.getD_eq_getElem?_getD, List.append_assoc, List.getElem?_append_right (by omega), List.getElem?_append_left (by omega)]
  congr 2; omega
 rw [e2] at e
 simp only [World.cell?, h]
 simpa [List.append_assoc] using e

/-- At a call inside a region that only reads: the draws add up. -/
theorem qcall {P : Program} {f : FuncId} {args : Array Value} {w : World} {v : Value} {k x : Nat}
  (h : Calls P f args (w.drewN (k + x)) fun e w' => e = .returned v ∧ w' = w.drewN (k + x)) : Calls P f args (w.drewN (k + x)) fun e w'' => e = .returned v ∧ ∃ n, w'' = w.drewN (k + n) :=
 h.mono fun _ _ ⟨he, hm⟩ => ⟨he, x, hm⟩
theorem below_drewN' {B : Nat} {W w : World} (h : Below B W w) (n : Nat) : Below B W (w.drewN n) := ⟨h.os, h.tape, h.output, h.size, h.block⟩

theorem dr3 (w : World) (a b c : Nat) : ∃ n, ((w.drewN a).drewN b).drewN c = w.drewN n := ⟨a + (b + c), by rw [World.drewN_drewN, World.drewN_drewN]⟩

theorem addr_add (b o j : Nat) : (⟨b, o, none⟩ : Addr).add j = ⟨b, o + j, none⟩ := by
 unfold Addr.add
 split <;> simp_all

theorem ret_slice {p q : Option Addr} {k n c d : Nat} (h1 : p = q) (h2 : k = n) (h3 : c = d) : Ending.returned (.slice p k c) = .returned (.slice q n d) := by rw [h1, h2, h3]
theorem ret_int {k : IntKind} {a b : Int} (h : a = b) : Ending.returned (.int k a) = .returned (.int k b) := by rw [h]

end Go.Proofs.YtnhfpekpdephjaaGreat

/-
 nat.trim: the slice without the noughts at its end; the memory stays.
-/
namespace Go.Proofs.YtnhfpekpdephjaaGreat
open Go.RowKit Nt
set_option linter.unusedSimpArgs false
set_option linter.unusedVariables false
set_option maxRecDepth 20000

set_option maxHeartbeats 400000 in
theorem trim_c (w : World) (p : Option Addr) (n c : Nat) (xs : List Nat) (hn : xs.length = n) (hc : n ≤ c) (hm : c ≤ maxLen) (ho : Ok xs) (hx : Limbs w p xs) :
  Calls Tryz.prog 44 #[.slice p n c] w fun e w' => e = .returned (.slice p (digs (val xs)).length c) ∧ w' = w := by
 unfold maxLen at hm
 have HX : Hid (Limbs w p xs) := hx
 have HN : Hid (xs.length = n) := hn
 have HO : Hid (Ok xs) := ho
 clear hx hn ho
 go_enter Tryz.func44, Tryz.ntmps44
 go_wp2
 go_loop [3] (fun i => ∃ k : Nat, k ≤ n ∧ i = .int .i64 k ∧ Hid (∀ j, k ≤ j → j < n → xs.getD j 0 = 0)) (fun i => (intOf i).toNat)
 case atStart => exact ⟨n, Nat.le_refl _, rfl, fun j h1 h2 => by omega⟩
 case round =>
  obtain ⟨k, hk, rfl, HZ⟩ := hrel
  by_cases hlt : 0 < k
  ·obtain ⟨b, o, rfl, hcell⟩ := HX.out (k - 1) (by have := HN.out; omega)
   by_cases h0 : xs.getD (k - 1) 0 = 0
   ·have hcell' := hcell
    rw [h0] at hcell'
    have H0 : Hid (xs.getD (k - 1) 0 = 0) := h0
    clear h0 hcell
    go_wp2
    go_round
    case rel =>
     refine ⟨k - 1, by omega, by go_num, ?_⟩
     intro j h1 h2
     by_cases e : j = k - 1
     ·rw [e]; exact H0.out
     ·exact HZ.out j (by omega) h2
    case measure => simp [intOf]; omega
   ·obtain ⟨x, hx⟩ : ∃ x, x = xs.getD (k - 1) 0 := ⟨_, rfl⟩
    have H0 : Hid (xs.getD (k - 1) 0 ≠ 0) := h0
    rw [← hx] at hcell h0
    have hb : ((x : Int) == 0) = false := beq_eq_false_iff_ne.2 (by omega)
    clear h0 hx
    go_wp2
    go_ret
    have hl : k = (digs (val xs)).length := by
     have := take_digs HO.out (k := k) (by rw [HN.out]; exact hk) (by rw [HN.out]; exact HZ.out) (Or.inr H0.out)
     rw [← this]; simp [HN.out]; omega
    exact ⟨ret_slice (by simp [Addr.add]) hl rfl, rfl⟩
  ·go_wp2
   go_ret
   have hl : k = (digs (val xs)).length := by
    have := take_digs HO.out (k := k) (by rw [HN.out]; exact hk) (by rw [HN.out]; exact HZ.out) (Or.inl (by omega))
    rw [← this]; simp [HN.out]; omega
   exact ⟨ret_slice (by simp [Addr.add]) hl rfl, rfl⟩

theorem trim_k (w : World) (p : Option Addr) (n c k : Nat) (xs : List Nat) (hk : (digs (val xs)).length = k) (hn : xs.length = n) (hc : n ≤ c) (hm : c ≤ maxLen) (ho : Ok xs) (hx : Limbs w p xs) :
  Calls Tryz.prog 44 #[.slice p n c] w fun e w' => e = .returned (.slice p k c) ∧ w' = w := by
 subst hk
 exact trim_c w p n c xs hn hc hm ho hx
end Go.Proofs.YtnhfpekpdephjaaGreat

/-
 nat.order, nat.Cmp.
-/
namespace Go.Proofs.YtnhfpekpdephjaaGreat
open Go.RowKit Nt
set_option linter.unusedSimpArgs false
set_option linter.unusedVariables false
set_option maxRecDepth 20000

/-- -1, 0, 1 -/
def cmpN (a b : Nat) : Int := if a < b then -1 else if a = b then 0 else 1

def ordB (b : Bool) : Int := if b then -1 else 1

theorem order_any (w : World) (b : Bool) : Calls Tryz.prog 70 #[.bool b] w fun e w' => e = .returned (.int .i64 (ordB b)) ∧ w' = w := by
 cases b
 all_goals
  go_enter Tryz.func70, Tryz.ntmps70
  go_wp2
  go_ret
  exact ⟨rfl, rfl⟩

/-- The first limb, from the top, in which they differ decides. -/
theorem cmp_at {xs ys : List Nat} (hl : xs.length = ys.length) (hx : Ok xs) {k : Nat} (hk : k < xs.length)
  (he : ∀ j, k < j → j < xs.length → xs.getD j 0 = ys.getD j 0) (hlt : xs.getD k 0 < ys.getD k 0) : val xs < val ys := by
 have e1 := val_split xs (k + 1) (by omega)
 have e2 := val_split ys (k + 1) (by omega)
 have hd : xs.drop (k + 1) = ys.drop (k + 1) := by
  apply List.ext_getElem (by simp [hl])
  intro i h1 h2
  have h3 : k + 1 + i < xs.length := by simp at h1; omega
  have h4 : k + 1 + i < ys.length := by omega
  have := he (k + 1 + i) (by omega) h3
  simpa [h3, h4] using this
 rw [hd] at e1
 rw [val_take_succ xs k hk] at e1
 rw [val_take_succ ys k (by omega)] at e2
 have b1 := val_lt (hx.take k)
 rw [List.length_take, Nat.min_eq_left (by omega)] at b1
 have b2 : 4294967296 ^ k * (xs.getD k 0 + 1) ≤ 4294967296 ^ k * ys.getD k 0 := Nat.mul_le_mul_left _ hlt
 rw [Nat.mul_add] at b2
 omega

theorem cmp_len {a b : Nat} (h : (digs a).length < (digs b).length) : a < b := by
 apply Classical.byContradiction
 intro hc
 have := digs_length_mono (Nat.le_of_not_lt hc)
 omega

set_option maxHeartbeats 1000000 in
theorem cmp_c (w : World) (p q : Option Addr) (n c m d : Nat) (xs ys : List Nat) (hn : xs.length = n) (hc : n ≤ c) (hm : c ≤ maxLen) (ho : Ok xs) (hx : Limbs w p xs)
  (hn' : ys.length = m) (hc' : m ≤ d) (hm' : d ≤ maxLen) (ho' : Ok ys) (hx' : Limbs w q ys) :
  Calls Tryz.prog 55 #[.slice p n c, .slice q m d] w fun e w' => e = .returned (.int .i64 (cmpN (val xs) (val ys))) ∧ ∃ nq, w' = w.drewN nq := by
 obtain ⟨la, hla⟩ : ∃ la, (digs (val xs)).length = la := ⟨_, rfl⟩
 obtain ⟨lb, hlb⟩ : ∃ lb, (digs (val ys)).length = lb := ⟨_, rfl⟩
 have hlan : la ≤ n := by rw [← hla, ← hn]; exact digs_le_length ho
 have hlbm : lb ≤ m := by rw [← hlb, ← hn']; exact digs_le_length ho'
 have t1 : ∀ w', Limbs w' p xs → Calls Tryz.prog 44 #[.slice p n c] w' fun e w'' => e = .returned (.slice p la c) ∧ w'' = w' := fun w' h => trim_k w' p n c la xs hla hn hc hm ho h
 have t2 : ∀ w', Limbs w' q ys → Calls Tryz.prog 44 #[.slice q m d] w' fun e w'' => e = .returned (.slice q lb d) ∧ w'' = w' := fun w' h => trim_k w' q m d lb ys hlb hn' hc' hm' ho' h
 have HX : Hid (Limbs w p (digs (val xs))) := hx.digs ho
 have HY : Hid (Limbs w q (digs (val ys))) := hx'.digs ho'
 have T1 := hid (t1 w hx)
 have T2 := hid (t2 w hx')
 have HA : Hid ((digs (val xs)).length = la) := hla
 have HB : Hid ((digs (val ys)).length = lb) := hlb
 unfold maxLen at hm hm'
 clear t1 t2 hla hlb hx hx' ho ho' hn hn'
 by_cases hl : la = lb
 ·subst hl
  go_enter Tryz.func55, Tryz.ntmps55
  go_wp2_with fail
  refine T1.out.mono ?_
  rintro e w' ⟨rfl, rfl⟩
  go_wp2_with fail
  refine T2.out.mono ?_
  rintro e w' ⟨rfl, rfl⟩
  go_wp2_with fail
  go_loopw [24] (fun i wr => ∃ k : Nat, k ≤ la ∧ i = .int .i64 k ∧ (∃ nq, wr = w'.drewN nq) ∧ Hid (∀ j, la - k ≤ j → j < la → (digs (val xs)).getD j 0 = (digs (val ys)).getD j 0)) (fun i _ => la - (intOf i).toNat)
  case atStart => exact ⟨0, Nat.zero_le _, rfl, ⟨0, rfl⟩, fun j h1 h2 => by omega⟩
  case round =>
   obtain ⟨k, hk, rfl, ⟨nq, rfl⟩, HZ⟩ := hrel
   by_cases hlt : k < la
   ·obtain ⟨b, o, rfl, hcell⟩ := HX.out (la - 1 - k) (by have := HA.out; omega)
    obtain ⟨b', o', rfl, hcell'⟩ := HY.out (la - 1 - k) (by have := HB.out; omega)
    obtain ⟨x, hx⟩ : ∃ x, (digs (val xs)).getD (la - 1 - k) 0 = x := ⟨_, rfl⟩
    obtain ⟨y, hy⟩ : ∃ y, (digs (val ys)).getD (la - 1 - k) 0 = y := ⟨_, rfl⟩
    rw [hx] at hcell
    rw [hy] at hcell'
    have HXK := hid hx
    have HYK := hid hy
    clear hx hy
    by_cases hxy : x = y
    ·subst hxy
     go_wp2_with fail
     go_quiet (fail)
     go_wp2
     go_roundw
     case rel =>
      refine ⟨k + 1, by omega, by go_num, ⟨_, rfl⟩, ?_⟩
      intro j h1 h2
      by_cases e : j = la - 1 - k
      ·rw [e, HXK.out, HYK.out]
      ·exact HZ.out j (by omega) h2
     case measure => simp [intOf]; omega
    ·have hne : ((x : Int) != (y : Int)) = true := by rw [bne_iff_ne]; omega
     go_wp2_with fail
     go_quiet (fail)
     go_wp2_with fail
     go_quiet ((go_at_call 70; exact qcall (order_any _ _)))
     go_wp2
     go_ret
     refine ⟨ret_int ?_, dr3 _ _ _ _⟩
     have he : ∀ j, la - 1 - k < j → j < la → (digs (val xs)).getD j 0 = (digs (val ys)).getD j 0 := fun j h1 h2 => HZ.out j (by omega) h2
     by_cases hxl : x < y
     ·have := cmp_at (by rw [HA.out, HB.out]) (ok_digs (val xs)) (k := la - 1 - k) (by rw [HA.out]; omega) (fun j h1 h2 => he j h1 (by rw [← HA.out]; exact h2)) (by rw [HXK.out, HYK.out]; exact hxl)
      rw [val_digs, val_digs] at this
      simp [cmpN, ordB, hxl, this]
     ·have := cmp_at (by rw [HA.out, HB.out]) (ok_digs (val ys)) (k := la - 1 - k) (by rw [HB.out]; omega) (fun j h1 h2 => (he j h1 (by rw [← HB.out]; exact h2)).symm) (by rw [HXK.out, HYK.out]; omega)
      rw [val_digs, val_digs] at this
      have h1 : ¬ val xs < val ys := by omega
      have h2 : ¬ val xs = val ys := by omega
      have h3 : ¬ (x : Int) < y := by omega
      simp [cmpN, ordB, h1, h2, hxl]
   ·go_wp2
    go_ret
    refine ⟨ret_int ?_, nq, rfl⟩
    have : digs (val xs) = digs (val ys) := by
     apply List.ext_getElem (by rw [HA.out, HB.out])
     intro i h1 h2
     have := HZ.out i (by omega) (by rw [← HA.out]; exact h1)
     simpa [h1, h2] using this
    simp [cmpN, digs_inj this]
 ·have hne : ((la : Int) != (lb : Int)) = true := by rw [bne_iff_ne]; omega
  by_cases hlt : la < lb
  ·go_enter Tryz.func55, Tryz.ntmps55
   go_wp2_with fail
   refine T1.out.mono ?_
   rintro e w' ⟨rfl, rfl⟩
   go_wp2_with fail
   refine T2.out.mono ?_
   rintro e w' ⟨rfl, rfl⟩
   go_wp2_with (go_at_call 70; refine (order_any _ _).mono ?_; rintro e w' ⟨rfl, rfl⟩)
   go_ret
   refine ⟨ret_int ?_, 0, rfl⟩
   have := cmp_len (a := val xs) (b := val ys) (by rw [HA.out, HB.out]; exact hlt)
   simp [cmpN, ordB, this]
  ·go_enter Tryz.func55, Tryz.ntmps55
   go_wp2_with fail
   refine T1.out.mono ?_
   rintro e w' ⟨rfl, rfl⟩
   go_wp2_with fail
   refine T2.out.mono ?_
   rintro e w' ⟨rfl, rfl⟩
   go_wp2_with (go_at_call 70; refine (order_any _ _).mono ?_; rintro e w' ⟨rfl, rfl⟩)
   go_ret
   refine ⟨ret_int ?_, 0, rfl⟩
   have := cmp_len (a := val ys) (b := val xs) (by rw [HA.out, HB.out]; omega)
   have h1 : ¬ val xs < val ys := by omega
   have h2 : ¬ val xs = val ys := by omega
   simp [cmpN, ordB, h1, h2]
end Go.Proofs.YtnhfpekpdephjaaGreat

/-
 Slices of limbs: arguments, new rows, make and copy.
-/
namespace Go.Proofs.YtnhfpekpdephjaaGreat
open Go.RowKit Nt
set_option linter.unusedSimpArgs false
set_option linter.unusedVariables false
set_option maxRecDepth 20000

theorem infoU32 : (Tryz.prog.info? 87).map (fun i => (i.zero, i.size, i.bytes)) = some (some (.int .u32 0), 1, 4) := by kernel_rfl

/-- The block g holds just these limbs. -/
def Blk (w : World) (g : Nat) (xs : List Nat) : Prop := w.heap[g]? = some (.cells (U xs).toArray 87 (0, 0))

theorem Blk.limbs {w : World} {g : Nat} {xs : List Nat} (h : Blk w g xs) : Limbs w (some ⟨g, 0, none⟩) xs :=
 Limbs.of_block (pre := []) (xs := xs) (post := []) (by simpa [Blk] using h)
theorem Blk.below {w w' : World} {g : Nat} {xs : List Nat} (h : Blk w g xs) (hb : Below w.heap.size w w') : Blk w' g xs := by
 have hg : g < w.heap.size := (Array.getElem?_eq_some_iff.1 h).1
 exact (hb.block g hg).trans h
theorem Blk.size {w : World} {g : Nat} {xs : List Nat} (h : Blk w g xs) : g < w.heap.size := (Array.getElem?_eq_some_iff.1 h).1

theorem madeCells_u32 (n : Nat) : madeCells (Value.cells (.int .u32 0)) (n * 1) = (U (List.replicate n 0)).toArray := by
 apply Array.ext
 ·simp [size_madeCells, U]
 ·intro i h1 h2
  simp [madeCells, U, Value.cells, Nat.mod_one]

theorem make_u32 (n : Nat) (hn : n ≤ 70368744177664) (W : World) :
  (Instr.makeSlice 31 (.int .i64 n) (.int .i64 n)).run Tryz.prog W = .ok (.slice (some ⟨W.heap.size, 0, none⟩) n n) (W.alloc (.cells (U (List.replicate n 0)).toArray 87)) := by
 obtain ⟨i0, hi, hz0, hz1, hz2⟩ := info_parts infoU32
 have := run_make (P := Tryz.prog) W 31 87 i0 (.int .u32 0) Tryz.underlying31 hi hz0 .i64 .i64 n n (by omega) (by omega) (by rw [hz2]; omega) (by omega)
 rw [this, hz1]
 simp only [Int.toNat_natCast, madeCells_u32]

theorem oneCell_U (xs : List Nat) : ∀ v ∈ U xs, v.oneCell' = true := by
 intro v hv
 simp [U] at hv
 obtain ⟨a, _, rfl⟩ := hv
 rfl

/-- A slice of limbs that is handed in. -/
structure Sl (w : World) (p : Option Addr) (n c : Nat) (xs : List Nat) : Prop where
 len : xs.length = n
 cap : n ≤ c
 max : c ≤ maxLen
 nil : p = none → c = 0
 ok : Ok xs
 lie : Limbs w p xs

theorem Sl.none (w : World) : Sl w none 0 0 [] := ⟨rfl, Nat.le_refl _, Nat.zero_le _, fun _ => rfl, Ok.nil, Limbs.nil _ _⟩
theorem Sl.below {w w' : World} {p : Option Addr} {n c : Nat} {xs : List Nat} (h : Sl w p n c xs) (hb : Below w.heap.size w w') : Sl w' p n c xs := ⟨h.len, h.cap, h.max, h.nil, h.ok, h.lie.below hb⟩
theorem Sl.digs {w : World} {p : Option Addr} {n c : Nat} {xs : List Nat} (h : Sl w p n c xs) : Sl w p (digs (val xs)).length c (digs (val xs)) :=
 ⟨rfl, Nat.le_trans (by rw [← h.len]; exact digs_le_length h.ok) h.cap, h.max, h.nil, ok_digs _, h.lie.digs h.ok⟩
theorem Sl.dl {w : World} {p : Option Addr} {n c : Nat} {xs : List Nat} (h : Sl w p n c xs) : (Nt.digs (val xs)).length ≤ n := by rw [← h.len]; exact digs_le_length h.ok

/-- The slice does not lie in block g (or is empty). -/
def Apart (q : Option Addr) (ys : List Nat) (g : Nat) : Prop := ∀ b o, q = some ⟨b, o, none⟩ → ys ≠ [] → b ≠ g
theorem trim_s (w : World) (p : Option Addr) (n c k : Nat) (xs : List Nat) (hk : (digs (val xs)).length = k) (h : Sl w p n c xs) :
  Calls Tryz.prog 44 #[.slice p n c] w fun e w' => e = .returned (.slice p k c) ∧ w' = w :=
 trim_k w p n c k xs hk h.len h.cap h.max h.ok h.lie

theorem cmp_s (w : World) (p q : Option Addr) (n c m d : Nat) (xs ys : List Nat) (h : Sl w p n c xs) (h' : Sl w q m d ys) :
  Calls Tryz.prog 55 #[.slice p n c, .slice q m d] w fun e w' => e = .returned (.int .i64 (cmpN (val xs) (val ys))) ∧ ∃ nq, w' = w.drewN nq :=
 cmp_c w p q n c m d xs ys h.len h.cap h.max h.ok h.lie h'.len h'.cap h'.max h'.ok h'.lie

/-- A number that a call hands back: its digits lie in a row that the call has made; nothing that was there has turned. -/
structure Res (w w' : World) (p : Option Addr) (c n : Nat) : Prop where
 below : Below w.heap.size w w'
 sl : Sl w' p (Nt.digs n).length c (Nt.digs n)
 own : ∀ b o, p = some ⟨b, o, none⟩ → o = 0 ∧ w.heap.size ≤ b ∧ ∃ rest, Blk w' b (Nt.digs n ++ rest) ∧ Ok rest ∧ c = (Nt.digs n).length + rest.length

theorem Res.nil {w w' : World} (h : Below w.heap.size w w') : Res w w' none 0 0 := ⟨h, Sl.none _, fun _ _ e => by cases e⟩
/-- The row whose first limbs are the digits. -/
theorem Res.row {w w' : World} {g c n : Nat} {xs : List Nat} (h : Below w.heap.size w w') (hg : Blk w' g xs) (ho : Ok xs) (hv : val xs = n) (hB : w.heap.size ≤ g) (hc : xs.length = c) (hm : c ≤ maxLen) : Res w w' (some ⟨g, 0, none⟩) c n := by
 subst hv
 have hd : xs.take (Nt.digs (val xs)).length = Nt.digs (val xs) := take_digs_val ho
 refine ⟨h, ⟨rfl, by rw [← hc]; exact digs_le_length ho, hm, (fun e => by cases e), ok_digs _, hg.limbs.digs ho⟩, fun b o e => ?_⟩
 simp only [Option.some.injEq, Addr.mk.injEq] at e
 obtain ⟨rfl, rfl, _⟩ := e
 refine ⟨rfl, hB, xs.drop (Nt.digs (val xs)).length, ?_, ho.drop _, ?_⟩
 ·have : Nt.digs (val xs) ++ xs.drop (Nt.digs (val xs)).length = xs := by
   conv => lhs; lhs; rw [← hd]
   exact List.take_append_drop _ _
  rw [this]; exact hg
 ·have := digs_le_length ho
  simp; omega

end Go.Proofs.YtnhfpekpdephjaaGreat

/-
 Arguments that are slices of limbs: what the row's reading gives.
-/
namespace Go.Proofs.YtnhfpekpdephjaaGreat
open Go.ChangeShapes Go.WideShapes Go.ChangeAt Go.RowKit Nt
set_option linter.unusedSimpArgs false
set_option linter.unusedVariables false
set_option maxRecDepth 20000

end Go.Proofs.YtnhfpekpdephjaaGreat

/-
 A row of the call's own that is written limb by limb.
-/
namespace Go.Proofs.YtnhfpekpdephjaaGreat
open Go.RowKit Nt
set_option linter.unusedSimpArgs false
set_option linter.unusedVariables false
set_option maxRecDepth 20000

/-- The world w, in which the row of block g holds the limbs xs (and some draws have been made). -/
def Wr (w : World) (g : Nat) (xs : List Nat) (w' : World) : Prop := ∃ n, w' = (w.setRow g (U xs).toArray).drewN n

theorem Wr.refl {w : World} {g : Nat} {xs : List Nat} (h : Blk w g xs) : Wr w g xs w := ⟨0, by rw [setRow_self w g _ _ _ h]; rfl⟩
theorem Wr.blk {w w' : World} {g : Nat} {xs ys : List Nat} (h : Blk w g xs) (k : Wr w g ys w') : Blk w' g ys := by
 obtain ⟨n, rfl⟩ := k
 exact setRow_heap w g _ _ _ _ h
theorem Wr.drewN {w w' : World} {g : Nat} {xs : List Nat} (h : Wr w g xs w') (n : Nat) : Wr w g xs (w'.drewN n) := by
 obtain ⟨m, rfl⟩ := h
 exact ⟨m + n, by rw [World.drewN_drewN]⟩
theorem Wr.drew {w w' : World} {g : Nat} {xs : List Nat} (h : Wr w g xs w') : Wr w g xs w'.drew := h.drewN 1
theorem Wr.other {w w' : World} {g k : Nat} {xs : List Nat} (h : Wr w g xs w') (hk : k ≠ g) : w'.heap[k]? = w.heap[k]? := by
 obtain ⟨n, rfl⟩ := h
 exact setRow_other w g k _ hk
theorem Wr.size {w w' : World} {g : Nat} {xs : List Nat} (h : Wr w g xs w') : w'.heap.size = w.heap.size := by
 obtain ⟨n, rfl⟩ := h
 exact setRow_size w g _
theorem Wr.below {w0 w w' : World} {B g : Nat} {xs : List Nat} (h : Wr w g xs w') (hb : Below B w0 w) (hg : B ≤ g) : Below B w0 w' := by
 obtain ⟨n, rfl⟩ := h
 exact below_drewN' (below_setRow hb hg _) n
theorem Wr.trans {w w' w'' : World} {g : Nat} {xs ys : List Nat} (h : Wr w g xs w') (k : Wr w' g ys w'') : Wr w g ys w'' := by
 obtain ⟨n, rfl⟩ := h
 obtain ⟨m, rfl⟩ := k
 refine ⟨n + m, ?_⟩
 rw [← setRow_setRow w g (U xs).toArray (U ys).toArray, ← World.drewN_drewN]
 rfl
/-- What lies in another block is as it was. -/
theorem Wr.limbs {w w' : World} {g : Nat} {xs ys : List Nat} {q : Option Addr} (h : Wr w g xs w') (hl : Limbs w q ys) (hq : Apart q ys g) : Limbs w' q ys := fun i hi => by
 obtain ⟨b, o, e, hc⟩ := hl i hi
 refine ⟨b, o, e, ?_⟩
 rw [← hc]
 exact World.cell?_of_block (w := w) (h.other (hq b o e (by intro e; rw [e] at hi; simp at hi)))

theorem Blk.cell {w : World} {g : Nat} {xs : List Nat} (h : Blk w g xs) (i : Nat) (hi : i < xs.length) : w.cell? ⟨g, i, none⟩ = some (.int .u32 (xs.getD i 0)) := by
 obtain ⟨b, o, e, hc⟩ := h.limbs i hi
 simp only [Option.some.injEq, Addr.mk.injEq] at e
 obtain ⟨rfl, rfl, _⟩ := e
 simpa using hc
theorem Blk.frozen {w : World} {g : Nat} {xs : List Nat} (h : Blk w g xs) (i : Nat) : w.frozen? ⟨g, i, none⟩ = false := by
 unfold Blk at h
 simp [World.frozen?, h]

/-- One limb is written. -/
theorem Wr.set {w w' : World} {g : Nat} {xs ys : List Nat} (h : Blk w g xs) (k : Wr w g ys w') (i z : Nat) : Wr w g (ys.set i z) (w'.setCell ⟨g, i, none⟩ (.int .u32 z)) := by
 have hb := Wr.blk h k
 have e := setCell_eq_setRow w' g i (U ys).toArray _ _ (.int .u32 z) hb
 obtain ⟨n, rfl⟩ := k
 refine ⟨n, ?_⟩
 rw [e]
 have e2 : (U ys).toArray.setIfInBounds i (.int .u32 (z : Int)) = (U (ys.set i z)).toArray := by
  simp [U, List.map_set]
 rw [e2]
 show ((w.setRow g _).setRow g _).drewN n = _
 rw [setRow_setRow]

theorem set_mid (pre zs rs post : List Nat) (k x z : Nat) (hz : zs.length = k) : (pre ++ (zs ++ x :: rs) ++ post).set (pre.length + k) z = pre ++ ((zs ++ [z]) ++ rs) ++ post := by
 subst hz
 rw [List.append_assoc, List.set_append_right _ _ (by omega)]
 simp [List.set_append]

theorem drop_cons (xs : List Nat) (k : Nat) (h : k < xs.length) : xs.drop k = xs.getD k 0 :: xs.drop (k + 1) := by
 rw [List.drop_eq_getElem_cons h]
 simp [h]

/-- The next limb of a row that is written from the left. -/
theorem Wr.next {w w' : World} {g : Nat} {xs pre zs A post : List Nat} {k : Nat} (h : Blk w g xs) (hz : zs.length = k) (hk : k < A.length) (hw : Wr w g (pre ++ (zs ++ A.drop k) ++ post) w') (z : Nat) :
  Wr w g (pre ++ ((zs ++ [z]) ++ A.drop (k + 1)) ++ post) (w'.setCell ⟨g, pre.length + k, none⟩ (.int .u32 z)) := by
 have := Wr.set h hw (pre.length + k) z
 rw [drop_cons A k hk, set_mid pre zs (A.drop (k + 1)) post k _ z hz] at this
 exact this

end Go.Proofs.YtnhfpekpdephjaaGreat

/-
 nat.addTo: the sum in place.
-/
namespace Go.Proofs.YtnhfpekpdephjaaGreat
open Go.RowKit Nt
set_option linter.unusedSimpArgs false
set_option linter.unusedVariables false
set_option maxRecDepth 20000

end Go.Proofs.YtnhfpekpdephjaaGreat

/-
 nat.Add.
-/
namespace Go.Proofs.YtnhfpekpdephjaaGreat
open Go.RowKit Nt
set_option linter.unusedSimpArgs false
set_option linter.unusedVariables false
set_option maxRecDepth 20000

end Go.Proofs.YtnhfpekpdephjaaGreat

/-
 nat.subFrom: the difference in place.
-/
namespace Go.Proofs.YtnhfpekpdephjaaGreat
open Go.RowKit Nt
set_option linter.unusedSimpArgs false
set_option linter.unusedVariables false
set_option maxRecDepth 20000

end Go.Proofs.YtnhfpekpdephjaaGreat

/-
 nat.Sub.
-/
namespace Go.Proofs.YtnhfpekpdephjaaGreat
open Go.RowKit Nt
set_option linter.unusedSimpArgs false
set_option linter.unusedVariables false
set_option maxRecDepth 20000

end Go.Proofs.YtnhfpekpdephjaaGreat

/-
 nat.addTimes: a row, with a multiple of another added in place.
-/
namespace Go.Proofs.YtnhfpekpdephjaaGreat
open Go.RowKit Nt
set_option linter.unusedSimpArgs false
set_option linter.unusedVariables false
set_option maxRecDepth 20000

end Go.Proofs.YtnhfpekpdephjaaGreat

/-
 nat.Mul.
-/
namespace Go.Proofs.YtnhfpekpdephjaaGreat
open Go.RowKit Nt
set_option linter.unusedSimpArgs false
set_option linter.unusedVariables false
set_option maxRecDepth 20000

end Go.Proofs.YtnhfpekpdephjaaGreat
