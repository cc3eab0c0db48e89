/-
  The document's power of two, in new memory.
-/
import Derived.Test.YtoplejeljmpcpaaDoorConts
import Derived.Test.YtoplejeljmpcpaaDoorSetP
namespace Go.Proofs.YtoplejeljmpcpaaDoor
open Go Go.RowKit Nt
set_option linter.unusedSimpArgs false
set_option linter.unusedVariables false
set_option maxRecDepth 20000

theorem two_row (x : Nat) : val (List.replicate (x / 32) 0 ++ [2 ^ (x % 32)]) = 2 ^ x := by
  rw [val_append, val_replicate, List.length_replicate, val_one, Nat.zero_add, show (4294967296 : Nat) = 2 ^ 32 from rfl, ← Nat.pow_mul, ← Nat.pow_add]
  congr 1
  omega
theorem Sta.change {w0 W : World} {n : Nat} {bx : Bxs} {sl : List (Tmp × Pr)} {B : Nat → Prop} {a : Act} (S : Sta w0 n bx sl B a W) (k : Nat) {t : Nat} {φ ψ : Pr} (h : sl[k]? = some (t, φ)) (hi : ∀ v w, φ v w → ψ v w) : Sta w0 n bx (sl.set k (t, ψ)) B a W :=
  ⟨S.ent, S.bnd, S.siz, S.dfr, S.box, S.sep, fun x hx => by
    rcases List.mem_or_eq_of_mem_set hx with h1 | h1
    · exact S.slt x h1
    · subst h1
      exact fun w' e => hi _ _ (S.slt _ (List.mem_of_getElem? h) w' e)⟩
theorem nil_nv : ∀ v w, Is (.slice none 0 0) v w → Nv 0 0 v w := fun v w e => ⟨none, 0, 0, [], e, Sl.none w, rfl, Nat.le_refl _⟩
theorem bs_nv {k lo : Nat} : ∀ v w, BS k lo v w → Nv k 1 v w := fun v w h => nr_nv (val_one k) (Nat.le_refl _) v w (bs_nr v w h)
theorem up_list (K M : Nat) : (List.replicate (K + (digs M).length) 0).take K ++ digs M ++ (List.replicate (K + (digs M).length) 0).drop (K + (digs M).length) = List.replicate K 0 ++ digs M := by
  rw [List.drop_eq_nil_of_le (by simp), List.append_nil, List.take_replicate, Nat.min_eq_left (by omega)]
theorem up_ok {K M : Nat} : Ok ((List.replicate (K + (digs M).length) 0).take K ++ digs M ++ (List.replicate (K + (digs M).length) 0).drop (K + (digs M).length)) := by
  rw [up_list]
  intro x hx
  rcases List.mem_append.1 hx with h | h
  · have := (List.mem_replicate.1 h).2
    omega
  · exact ok_digs M x h
theorem up_digs {K M : Nat} (hM : M ≠ 0) : List.replicate K 0 ++ digs M = digs (M * 2 ^ (32 * K)) := by
  refine digs_eq ?_ ?_ ?_
  · rw [← up_list]; exact up_ok
  · right
    rcases top_digs M with h | h
    · exact absurd (by rw [← val_digs M, h]; rfl) hM
    · have hl : (digs M).length ≠ 0 := fun e => hM ((digs_length_zero M).1 e)
      rw [List.getD_eq_getElem?_getD] at h ⊢
      rw [List.length_append, List.length_replicate, List.getElem?_append_right (by rw [List.length_replicate]; omega), List.length_replicate, show K + (digs M).length - 1 - K = (digs M).length - 1 by omega]
      exact h
  · rw [val_append, val_replicate, List.length_replicate, val_digs, show (4294967296 : Nat) = 2 ^ 32 from rfl, ← Nat.pow_mul, Nat.zero_add, Nat.mul_comm]
theorem two_len' {N : Nat} : (digs ((2 : Int) ^ N).natAbs).length ≤ N / 32 + 1 := by
  rw [Int.natAbs_pow]
  refine digs_length_le ?_
  rw [show (4294967296 : Nat) = 2 ^ 32 from rfl, ← Nat.pow_mul]
  exact Nat.pow_lt_pow_right (by decide) (by omega)
theorem two_len {N : Nat} (h : N ≤ 65536) : (digs ((2 : Int) ^ N).natAbs).length ≤ 2049 := by
  rw [Int.natAbs_pow]
  have : (digs ((2 : Int).natAbs ^ N)).length ≤ N / 32 + 1 := by
    refine digs_length_le ?_
    rw [show (4294967296 : Nat) = 2 ^ 32 from rfl, ← Nat.pow_mul]
    exact Nat.pow_lt_pow_right (by decide) (by omega)
  omega
theorem ipow_len {A : Int} {n N : Nat} (h : (digs A.natAbs).length ≤ n) (hn : n ≤ 1048576) (hN : N ≤ 65536) : (digs (A ^ N).natAbs).length ≤ 68719476737 := by
  have key : ∀ k : Nat, (digs (A ^ k).natAbs).length ≤ k * n + 1 := by
    intro k
    induction k with
    | zero => rw [Int.pow_zero]; exact Nat.le_trans (dl_small (by decide)) (by omega)
    | succ k ih =>
      rw [Int.pow_succ]
      refine Nat.le_trans (dl_mul ih h) ?_
      rw [Nat.add_mul]
      omega
  have h2 : N * n ≤ 65536 * 1048576 := Nat.mul_le_mul hN hn
  have := key N
  omega
theorem digs_nx {p : Option Addr} {k c : Nat} {m j : Nat} (hj : k ≤ j) : ∀ v w, Nx p k c (digs m) v w → Nv m j v w := fun v w ⟨e, h⟩ => ⟨p, k, c, _, e, h, val_digs m, hj⟩
theorem nn_one {lo : Nat} : ∀ v w, BS 1 lo v w → NN 1 lo v w := fun v w h => by
  obtain ⟨r, c, e, h1, h2⟩ := bs_nr v w h
  have e1 : digs 1 = [1] := rfl
  exact ⟨r, c, by rw [e1]; exact e, by rw [e1]; exact h1, h2⟩
theorem Gives.two {φ φ' ψ : Nat → Pr} {w : World} {f : FuncId} {args : Array Value} (h : Calls Tryd.prog f args w (Gives (TWO φ ψ) w)) (k : ∀ v w', φ w.heap.size v w' → φ' w.heap.size v w') : Calls Tryd.prog f args w (Gives (TWO φ' ψ) w) := by
  refine h.mono ?_
  rintro e w' ⟨v, rfl, hb, x, y, rfl, h1, h2⟩
  exact ⟨_, rfl, hb, x, y, rfl, k _ _ h1, h2⟩
theorem zero_zn {lo : Nat} : ∀ v w, IS (.agg #[.bool false, .slice none 0 0]) lo v w → ZN 0 lo v w := fun v w e => ⟨none, 0, e, Sl.none w, fun b o h => nomatch h⟩
theorem zero_nn {lo : Nat} : ∀ v w, IS (.slice none 0 0) lo v w → NN 0 lo v w := fun v w e => ⟨none, 0, e, Sl.none w, fun b o h => nomatch h⟩
/-- A magnitude in new memory, of so many limbs at most. -/
def NW (m k : Nat) : Nat → Pr := fun lo v w => ∃ xs, NR xs lo v w ∧ val xs = m ∧ xs.length ≤ k
theorem fresh_nw (m k : Nat) : Fresh (NW m k) :=
  ⟨fun lo lo' v w hl ⟨xs, h, e⟩ => ⟨xs, (fresh_nr xs).1 lo lo' v w hl h, e⟩, fun lo v w w' B hB ⟨xs, h, e⟩ ev => ⟨xs, (fresh_nr xs).2 lo v w w' B hB h ev, e⟩⟩
theorem nw_nv {m k lo : Nat} : ∀ v w, NW m k lo v w → Nv m k v w := fun v w ⟨xs, h, e, hk⟩ => nr_nv e hk v w h
theorem run_shl1 (ρ : Operand → Value) (o : Oper) (x y : Operand) (w : World) (s P : Nat) (hs : s < 32) (hP : 2 ^ s = P) (h1 : ρ x = .int .u32 1) (h2 : ρ y = .int .i64 s) : (execOp ρ { o with op := .binOp .shl 46 x y 3 }).run Tryd.prog w = .ok (.value (.int .u32 P)) w := by
  have hP1 : P ≤ 2147483648 := by rw [← hP]; exact Nat.pow_le_pow_right (n := 2) (by omega) (show s ≤ 31 by omega)
  have hPi : (2 : Int) ^ s = (P : Int) := by rw [← hP]; simp
  have h5 : IntKind.u32.wrap (P : Int) = (P : Int) := by rw [IntKind.wrap_u32]; omega
  unfold execOp
  go_simp
end Go.Proofs.YtoplejeljmpcpaaDoor
