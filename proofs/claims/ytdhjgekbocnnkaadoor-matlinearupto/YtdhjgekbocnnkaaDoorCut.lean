/-
  mat.cut's closure: the next row is cut off the list; boxes of one cell.
-/
import Derived.Test.YtdhjgekbocnnkaaDoorGrid
import Derived.Test.YtdhjgekbocnnkaaDoorVec
namespace Go.Proofs.YtdhjgekbocnnkaaDoor
open Go Go.RowKit Nt
set_option linter.unusedSimpArgs false
set_option linter.unusedVariables false
set_option maxRecDepth 20000

theorem ldr_mat1 : Ldr 22 1 := fun ρ o x w b k u hu hc hx => by
  obtain ⟨e, h1⟩ := celv1 hu
  have h2 : w.cell? ⟨b, k, none⟩ = some u := hc 0 u (by rw [e]; rfl)
  clear hc hu e
  unfold execOp
  go_simp
theorem loads_ldr {T sz : Nat} (hE : Ldr T sz) {φ : Pr} (hc : Cel sz φ) : Loads T φ := fun ρ w o x b u hφ hx hb hop => by
  have := hE ρ o x w b 0 u (hc u w hφ) (fun j c hj => by simp only [World.cell?, hb, Nat.zero_add]; simpa using hj) hx
  rw [← this]
  unfold execOp
  rw [hop]
theorem stores_sto {T sz : Nat} (hE : Sto T sz) {φ ψ : Pr} (hc : Cel sz φ) (hc' : Cel sz ψ) : Stores T φ ψ := fun ρ w o x y b u hφ hb hx hψ hop => by
  have h1 := hc u w hφ
  have h2 := hc' _ w hψ
  have := hE ρ o x y w b 0 _ h2 (there_of hb h1.siz) hx rfl
  rw [set_all hb (by rw [h1.siz, h2.siz])] at this
  rw [← this]
  unfold execOp
  rw [hop]
theorem bx1_row (ρ : Operand → Value) (o : Oper) (x : Operand) (w : World) (hu : Celv 1 (ρ x)) : (execOp ρ { o with op := .box 23 x }).run Tryd.prog w = .ok (.value (.pointer (some ⟨w.heap.size, 0, none⟩))) (w.alloc (.cells (ρ x).cells 23 (0, 0))) := by
  obtain ⟨e, h1⟩ := celv1 hu
  rw [e]
  clear hu e
  generalize hx : ρ x = u at *
  cases u <;> first | (simp [Value.oneCell'] at h1; done) | (unfold execOp; go_simp; done)
theorem bx1_mat (ρ : Operand → Value) (o : Oper) (x : Operand) (w : World) (hu : Celv 1 (ρ x)) : (execOp ρ { o with op := .box 22 x }).run Tryd.prog w = .ok (.value (.pointer (some ⟨w.heap.size, 0, none⟩))) (w.alloc (.cells (ρ x).cells 22 (0, 0))) := by
  obtain ⟨e, h1⟩ := celv1 hu
  rw [e]
  clear hu e
  generalize hx : ρ x = u at *
  cases u <;> first | (simp [Value.oneCell'] at h1; done) | (unfold execOp; go_simp; done)
theorem bx1_i (ρ : Operand → Value) (o : Oper) (x : Operand) (w : World) (hu : Celv 1 (ρ x)) : (execOp ρ { o with op := .box 3 x }).run Tryd.prog w = .ok (.value (.pointer (some ⟨w.heap.size, 0, none⟩))) (w.alloc (.cells (ρ x).cells 3 (0, 0))) := by
  obtain ⟨e, h1⟩ := celv1 hu
  rw [e]
  clear hu e
  generalize hx : ρ x = u at *
  cases u <;> first | (simp [Value.oneCell'] at h1; done) | (unfold execOp; go_simp; done)

/-- Where the list goes on behind a row of s. -/
def nextAt (g o C s : Nat) : Nat := if C = s then o else o + 2 * s
set_option maxHeartbeats 1000000 in
theorem cut1_c (w : World) (bb g o N C s : Nat) (hb : w.heap[bb]? = some (.cells #[.slice (some ⟨g, o, none⟩) N C] 23 (0, 0))) (h1 : s ≤ N) (h2 : N ≤ C) (h3 : C ≤ maxLen) :
    Calls Tryd.prog 82 #[.int .i64 (s : Nat), .pointer (some ⟨bb, 0, none⟩)] w fun e w' => e = .returned (.slice (some ⟨g, o, none⟩) s s) ∧ w' = w.setRow bb #[.slice (some ⟨g, nextAt g o C s, none⟩) (N - s) (C - s)] := by
  have hc : w.cell? ⟨bb, 0, none⟩ = some (.slice (some ⟨g, o, none⟩) N C) := by simp [World.cell?, hb]
  have hf : w.frozen? ⟨bb, 0, none⟩ = false := by simp [World.frozen?, hb]
  have hset : w.setCell ⟨bb, 0, none⟩ (.slice (some ⟨g, nextAt g o C s, none⟩) (N - s) (C - s)) = w.setRow bb #[.slice (some ⟨g, nextAt g o C s, none⟩) (N - s) (C - s)] := by
    rw [setCell_eq_setRow w bb 0 _ _ _ _ hb]
    rfl
  have hC : s ≤ C := Nat.le_trans h1 h2
  unfold maxLen at h3
  rw [← hset]
  clear hset hb
  unfold nextAt
  by_cases e : C = s
  · subst e
    obtain rfl : N = C := by omega
    go_enter Tryd.func82, Tryd.ntmps82
    go_wp2
    exact bodyPost_ret (by simp [results, Tryd.results82, go_sem]; try rfl) rfl ⟨rfl, rfl⟩
  · go_enter Tryd.func82, Tryd.ntmps82
    go_wp2
    exact bodyPost_ret (by simp [results, Tryd.results82, go_sem]; try rfl) rfl ⟨rfl, by rw [Nat.mul_comm s 2]⟩

/-! The rows that are cut off: how many numbers stand ahead of each. -/
def ahead (ss : List Nat) (k : Nat) : Nat := (ss.take k).sum
theorem ahead_succ {ss : List Nat} {k s : Nat} (h : ss[k]? = some s) : ahead ss (k + 1) = ahead ss k + s := by
  unfold ahead
  rw [List.take_add_one, h]
  simp
theorem ahead_le (ss : List Nat) (k : Nat) : ahead ss k ≤ ss.sum := by
  unfold ahead
  have : ss.sum = (ss.take k).sum + (ss.drop k).sum := by rw [← List.sum_append_nat, List.take_append_drop]
  omega
/-- What the list is when k rows are cut off: its place does not go beyond its end. -/
def stAt (o : Nat) (ss : List Nat) (C : Nat) : Nat → Nat
  | 0 => o
  | k + 1 => nextAt 0 (stAt o ss C k) (C - ahead ss k) (ss.getD k 0)
def stV (g o N C : Nat) (ss : List Nat) (k : Nat) : Value := .slice (some ⟨g, stAt o ss C k, none⟩) (N - ahead ss k) (C - ahead ss k)
/-- The row number k. -/
def rowV (g o C : Nat) (ss : List Nat) (k : Nat) : Value := .slice (some ⟨g, stAt o ss C k, none⟩) (ss.getD k 0) (ss.getD k 0)
/-- Its place, where it has a number. -/
theorem stAt_pos {o C : Nat} {ss : List Nat} (hC : ss.sum ≤ C) : ∀ {k : Nat}, ahead ss k < C → stAt o ss C k = o + 2 * ahead ss k
  | 0, _ => by simp [stAt, ahead]
  | k + 1, h => by
    have hk : ahead ss k ≤ ahead ss (k + 1) := by
      cases hs : ss[k]? with
      | none => unfold ahead; rw [List.take_add_one, hs]; simp
      | some s => rw [ahead_succ hs]; omega
    have ih := stAt_pos (o := o) hC (k := k) (by omega)
    show nextAt 0 (stAt o ss C k) (C - ahead ss k) (ss.getD k 0) = _
    cases hs : ss[k]? with
    | none =>
      have e : ahead ss (k + 1) = ahead ss k := by unfold ahead; rw [List.take_add_one, hs]; simp
      rw [e] at h ⊢
      simp only [nextAt, List.getD_eq_getElem?_getD, hs, Option.getD_none, ih]
      rw [if_neg (by omega)]
      omega
    | some s =>
      rw [ahead_succ hs] at h ⊢
      simp only [nextAt, List.getD_eq_getElem?_getD, hs, Option.getD_some, ih]
      rw [if_neg (by omega)]
      omega
theorem cut1_at (w : World) (bb g o N C : Nat) (ss : List Nat) (k s : Nat) (hk : ss[k]? = some s) (hN : ss.sum ≤ N) (hC : N ≤ C) (hm : C ≤ maxLen) (hb : w.heap[bb]? = some (.cells #[stV g o N C ss k] 23 (0, 0))) :
    Calls Tryd.prog 82 #[.int .i64 (s : Nat), .pointer (some ⟨bb, 0, none⟩)] w fun e w' => e = .returned (rowV g o C ss k) ∧ w' = w.setRow bb #[stV g o N C ss (k + 1)] := by
  have h1 := ahead_succ hk
  have h2 := ahead_le ss (k + 1)
  have hg : ss.getD k 0 = s := by rw [List.getD_eq_getElem?_getD, hk]; rfl
  have := cut1_c w bb g (stAt o ss C k) (N - ahead ss k) (C - ahead ss k) s hb (by omega) (by omega) (by omega)
  have e1 : rowV g o C ss k = .slice (some ⟨g, stAt o ss C k, none⟩) s s := by unfold rowV; rw [hg]
  have e2 : stV g o N C ss (k + 1) = .slice (some ⟨g, nextAt g (stAt o ss C k) (C - ahead ss k) s, none⟩) (N - ahead ss k - s) (C - ahead ss k - s) := by
    unfold stV
    rw [show stAt o ss C (k + 1) = nextAt 0 (stAt o ss C k) (C - ahead ss k) (ss.getD k 0) from rfl, hg, h1, Nat.sub_sub, Nat.sub_sub]
    rfl
  rw [e1, e2]
  exact this

theorem owe_callCut {ops : Array Oper} {l : List Kd} {bx : Bxs} {sl : List (Tmp × Pr)} {i : Nat} {oo : Oper} {Q : Exit → Act → World → Prop} {a0 : Act} {n0 : Nat} {w0 : World} {x y : Operand} {ts : Array TypeId} {t kk bb g o N C k s : Nat} {ss : List Nat} (ho : ops[i]? = some oo) (hw : Wants ops l bx sl i oo) (hop : oo.op = .call { callee := .value x, args := #[y], argTypes := ts })
    (hb : bx[kk]? = some (t, .own (fun b => b = bb) 23 (fun C' w => C' bb = [stV g o N C ss k]))) (hn : unturned ops l i (.inl t) = true) (hx : Opnd ops l bx sl i x (Is (.func (.func 82) #[] #[.pointer (some ⟨bb, 0, none⟩)]))) (hy : Opnd ops l bx sl i y (Is (.int .i64 (s : Nat)))) (hs : ss[k]? = some s) (hN : ss.sum ≤ N) (hC : N ≤ C) (hm : C ≤ maxLen)
    (hk : kdAt l i = .turn (.inl t) (.own (fun b => b = bb) 23 (fun C' w => C' bb = [stV g o N C ss (k + 1)])) (Is (rowV g o C ss k))) : Owed Tryd.prog ops Q l bx sl a0 n0 w0 i :=
  owe_callT ho hw hop hb hn hk fun vs B a w c C' h1 h2 => by
    have hxv := (hx a0 n0 w0 vs B a w c).now
    have hyv : a.eval y = _ := (hy a0 n0 w0 vs B a w c).now
    have hst : C' bb = [stV g o N C ss k] := h2 w (Ev.refl _ _)
    obtain ⟨hBb, hg⟩ := h1 bb rfl
    rw [hst] at hg
    refine ⟨_, _, hxv, fun args w => by go_simp, ?_⟩
    rw [show (#[y] : Array Operand).map a.eval ++ #[.pointer (some ⟨bb, 0, none⟩)] = #[a.eval y, .pointer (some ⟨bb, 0, none⟩)] from by simp, hyv]
    refine (cut1_at w bb g o N C ss k s hs hN hC hm hg).mono ?_
    rintro e' w' ⟨rfl, rfl⟩
    refine ⟨_, fun _ => [stV g o N C ss (k + 1)], rfl, ⟨rfl, rfl, rfl, Nat.le_of_eq (setRow_size _ _ _).symm, fun k _ hn' => setRow_other _ _ _ _ (fun e => hn' e)⟩, fun b hb' => ?_, fun _ _ => rfl, fun _ _ => rfl⟩
    subst hb'
    exact setRow_heap w _ _ _ _ _ hg
end Go.Proofs.YtdhjgekbocnnkaaDoor
