/-
  append(a, make([]uint32, k)...): a row of the call's own, longer by k noughts.
-/
import Derived.Test.YtnbmpldfbbidmaaSetD
import Derived.Test.YtnbmpldfbbidmaaSetA
import Derived.Test.YtnbmpldfbbidmaaAwake
import Derived.Laws.AppendOwn
import Derived.Maps.AppendAt
namespace Go.Proofs.Ytnbmpldfbbidmaa
open Go.RowKit Nt
set_option linter.unusedSimpArgs false
set_option linter.unusedVariables false

theorem zeros_u32 (k : Nat) : Builtin.zeroCells (Value.int .u32 0).cells k = (U (List.replicate k 0)).toArray := by
  simp only [Builtin.zeroCells, Value.cells, U]
  apply Array.ext'
  simp [Nat.mod_one]
  rw [List.eq_replicate_iff]
  simp
theorem app_zeros (w : World) (base : Nat) (v : Value) (A : List Nat) (k : Nat) (ty : TypeId) (hown : Own w base v A) (hb : A.length + k ≤ 35184372088832) (hbase : base ≤ w.heap.size) :
    ∃ v' w', (Builtin.append_ #[23, 3] ty #[v, .int .i64 (k : Int)]).run Try.prog w = .ok v' w' ∧ Own w' base v' (A ++ List.replicate k 0) ∧ w.grownBy w' v.ownBlock ∧ (v'.ownBlock = v.ownBlock ∨ v'.ownBlock = some w.heap.size) := by
  obtain ⟨i, hi, hz, hsize, hby⟩ := info_parts infoU32
  have ht := Try.underlying23
  have hu := Try.underlying3
  have hw0 : IntKind.i64.wrap (k : Int) = (k : Int) := by simp only [IntKind.wrap_i64]; omega
  have hneg : ¬ ((k : Int) < 0) := by omega
  have h48 : ¬ ((281474976710656 : Int) < (k : Int) * 4) := by omega
  have hh := hown
  obtain ⟨hlen, hcase⟩ := hh
  have zs : (List.replicate k (Value.int .u32 0)).toArray = (U (List.replicate k 0)).toArray := by simp [U]
  have grown : ∀ (old : Nat), old < A.length + k → ∀ (row : Option Nat),
      Own (w.drew.alloc (.cells ((U A).toArray ++ (U (List.replicate k 0)).toArray ++ Builtin.zeroCells (Value.int .u32 0).cells (grownCap w (A.length + k) old 30 - (A.length + k))) 30)) base (.slice (some ⟨w.heap.size, 0, none⟩) (A.length + k) (grownCap w (A.length + k) old 30)) (A ++ List.replicate k 0) ∧
      w.grownBy (w.drew.alloc (.cells ((U A).toArray ++ (U (List.replicate k 0)).toArray ++ Builtin.zeroCells (Value.int .u32 0).cells (grownCap w (A.length + k) old 30 - (A.length + k))) 30)) row := by
    intro old ho row
    have hge := grownCap_ge w (A.length + k) old 30
    have hcm : grownCap w (A.length + k) old 30 ≤ maxLen := grownCap_le_maxLen w (A.length + k) old 30 (by unfold maxLen; omega)
    have hL : (A ++ List.replicate k 0).length = A.length + k := by simp
    refine ⟨⟨by rw [U_length, Nat.mul_one], .inr ⟨w.heap.size, _, _, by rw [hL], hbase, heap_alloc_new w.drew _, by rw [hL]; exact hge, hcm, ?_, ?_⟩⟩, ⟨rfl, rfl, rfl, by simp, fun j hj _ => heap_alloc_old' w.drew _ j hj⟩⟩
    · rw [zeros_u32]
      simp only [Array.size_append, List.size_toArray, U_length, List.length_replicate]
      omega
    · rw [zeros_u32, hL]
      simp only [Array.toList_append, ← U_append]
      rw [U_append (A ++ List.replicate k 0)]
      exact List.take_left' (by simp [U_length])
  rcases hcase with ⟨rfl, h0⟩ | ⟨g, cap, cur, rfl, hbg, hg, hnc, hcm, hcs, htake⟩
  · have hA : A = [] := List.length_eq_zero_iff.1 h0
    subst hA
    by_cases hk : k = 0
    · subst hk
      refine ⟨.slice none 0 0, w, ?_, by simpa using Own.nil w base, ⟨rfl, rfl, rfl, Nat.le_refl _, fun _ _ _ => rfl⟩, Or.inl rfl⟩
      simp [Builtin.append_, run_underlying ht, run_underlying hu, sizeOf, typeInfo, hi, hsize, hby, asInt, asIntOf, IntKind.wrap_i64]
    · have h48' : ¬ (281474976710656 < Builtin.nextslicecap k 0 * 4) := by rw [nextslicecap_zero (by omega)]; omega
      have hgr := grown 0 (by simp; omega) (Value.ownBlock (.slice none 0 0))
      simp only [List.length_nil, Nat.zero_add, List.nil_append] at hgr
      have h63 : ¬ ((9223372036854775807 : Int) < (k : Int)) := by omega
      refine ⟨_, _, ?_, hgr.1, hgr.2, Or.inr rfl⟩
      simp [Builtin.append_, run_underlying ht, run_underlying hu, sizeOf, typeInfo, zeroValue, hi, hz, hsize, hby, asInt, asIntOf, hw0, hneg, h48, hk, h48', h63, Question.forced, run_firstCells_none, newRow, grownCap, zeros_u32, U]
  · by_cases hroom : A.length + k ≤ cap
    · by_cases hk : k = 0
      · subst hk
        refine ⟨.slice (some ⟨g, 0, none⟩) A.length cap, w, ?_, by simpa using hown, ⟨rfl, rfl, rfl, Nat.le_refl _, fun _ _ _ => rfl⟩, Or.inl rfl⟩
        simp [Builtin.append_, run_underlying ht, run_underlying hu, sizeOf, typeInfo, hi, hsize, hby, asInt, asIntOf, IntKind.wrap_i64, hnc, storeCells]
      · have hst := run_storeCells_at Try.prog g A.length 30 (U (List.replicate k 0)) 0 cur w hg (by rw [U_length]; simp; omega) (oneCell_U _)
        simp only [Nat.add_zero] at hst
        refine ⟨.slice (some ⟨g, 0, none⟩) (A.length + k) cap, w.setRow g (cur.toList.take A.length ++ U (List.replicate k 0) ++ cur.toList.drop (A.length + (U (List.replicate k 0)).length)).toArray, ?_, ?_, ⟨rfl, rfl, rfl, by simp, fun j _ hj => setRow_other w g j _ (fun e => hj (by simp [Value.ownBlock, e]))⟩, Or.inl rfl⟩
        · simp only [Builtin.append_, run_underlying ht, run_underlying hu, sizeOf, typeInfo, zeroValue, hi, hz, hsize, hby, asInt, asIntOf, hw0, hneg, h48, hk, hroom, Addr.add_lit, hst, zeros_u32]
          simp [hi, hz, hsize, hby, asIntOf, hw0, hneg, h48, hk, hroom, Addr.add_lit, hst, zeros_u32, run_underlying ht, run_underlying hu, Sem.run_bind]
        · have hL : (A ++ List.replicate k 0).length = A.length + k := by simp
          refine ⟨by rw [U_length, Nat.mul_one], .inr ⟨g, cap, _, by rw [hL], hbg, setRow_heap w g cur _ _ _ hg, by rw [hL]; exact hroom, hcm, ?_, ?_⟩⟩
          · simp only [List.size_toArray, List.length_append, List.length_take, List.length_drop, Array.length_toList, U_length, List.length_replicate]
            omega
          · rw [hL, Nat.mul_one, U_append]
            have ht' : cur.toList.take A.length = U A := by simpa using htake
            rw [ht']
            exact List.take_left' (by simp [U_length])
    · have holds : ∀ j u, (U A)[j]? = some u → w.cell? ((⟨g, 0, none⟩ : Addr).add j) = some u := hown.cells (g := g) rfl
      have hfo := run_firstCells_some (P := Try.prog) w.drew 1 A.length ⟨g, 0, none⟩ A.length cap (U A) (by rw [U_length, Nat.mul_one]) (by simpa using holds)
      have hgr := grown cap (by omega) (Value.ownBlock (.slice (some ⟨g, 0, none⟩) A.length cap))
      have hk : k ≠ 0 := by omega
      have h63 : ¬ ((9223372036854775807 : Int) < (A.length : Int) + (k : Int)) := by omega
      have hfit := growslice_fits (need := A.length + k) (old := cap) (bytes := 4) (by omega) (by omega)
      have h48' : ¬ (281474976710656 < Builtin.nextslicecap (A.length + k) cap * 4) := by omega
      refine ⟨_, _, ?_, hgr.1, hgr.2, Or.inr rfl⟩
      simp [Builtin.append_, run_underlying ht, run_underlying hu, sizeOf, typeInfo, zeroValue, hi, hz, hsize, hby, asInt, asIntOf, hw0, hneg, h48, hk, hroom, h48', h63, Question.forced, hfo, newRow, grownCap, zeros_u32]

theorem wpl_zeros {ops : Array Oper} {rest : List Oper} {o : Oper} {a : Act} {Q : Exit → Act → World → Prop} (w : World) (hgd : o.guard = none) (s x : Operand)
    (ho : o.op = .call { callee := .builtin .append, args := #[s, x], argTypes := #[23, 3] })
    (base : Nat) (v : Value) (A : List Nat) (hs : a.eval s = v) (hown : Own w base v A) (k : Nat) (hx : a.eval x = .int .i64 (k : Int)) (hb : A.length + k ≤ 35184372088832) (hbase : base ≤ w.heap.size)
    (h : ∀ v' w', Own w' base v' (A ++ List.replicate k 0) → Below base w w' → (∀ j, j < w.heap.size → v.ownBlock ≠ some j → w'.heap[j]? = w.heap[j]?) → (v'.ownBlock = v.ownBlock ∨ v'.ownBlock = some w.heap.size) → wpList Try.prog ops Q rest (a.put o.dst v') w') : wpList Try.prog ops Q (o :: rest) a w := by
  obtain ⟨v', w', hr, h1, h2, h3⟩ := app_zeros w base v A k o.type hown hb hbase
  refine wpList_plain hgd fun K hK => ?_
  unfold Oper.wp execOp
  simp only [ho, resolve, invoke, builtin, Sem.run_bind, Sem.run_pure, Result.andThen_ok, List.map_toArray, List.map_cons, List.map_nil, hs, hx, hr]
  exact hK _ _ (h v' w' h1 ((Below.refl base w).grown h2 hbase (fun k hk => (World.ownsRow.lt hown k hk).1)) (fun j hj hne => h2.block j hj (fun e => hne e.symm)) h3)
theorem append_atZ {ops : Array Oper} {rest : List Oper} {o : Oper} {a : Act} {Q : Exit → Act → World → Prop} (w : World) (hgd : o.guard = none) (s x : Operand)
    (ho : o.op = .call { callee := .builtin .append, args := #[s, x], argTypes := #[23, 23] })
    (base : Nat) (v : Value) (xs : List Nat) (hs : a.eval s = v) (hown : Own w base v xs)
    (ad : Addr) (m c : Nat) (news : List Nat) (hx : a.eval x = .slice (some ad) m c) (hl : news.length = m) (hnews : Limbs w (some ad) news)
    (hb : xs.length + m ≤ 35184372088832) (hbase : base ≤ w.heap.size)
    (h : ∀ v' w', Own w' base v' (xs ++ news) → Below base w w' → (∀ k, k < w.heap.size → v.ownBlock ≠ some k → w'.heap[k]? = w.heap[k]?) → (v'.ownBlock = v.ownBlock ∨ v'.ownBlock = some w.heap.size) → wpList Try.prog ops Q rest (a.put o.dst v') w') : wpList Try.prog ops Q (o :: rest) a w := by
  obtain ⟨i0, hi, hz0, hz1, hz2⟩ := info_parts infoU32
  refine wpList_append_own_at w hgd s x 23 ho base 30 i0 (.int .u32 0) 1 4 Try.underlying23 hi hz0 hz1 hz2 rfl (by decide) v xs.length (U xs) hs hown ad m c (U news) hx (by simp [U, hl]) ?_ (oneCell_U news) (by unfold maxLen; omega) (by omega) hbase ?_
  · intro j u hj
    have hj' : j < news.length := by
      have := (List.getElem?_eq_some_iff.1 hj).1
      simpa [U] using this
    rw [U_get news j hj'] at hj
    obtain ⟨b, o', e, hc⟩ := hnews j hj'
    obtain rfl := Option.some.inj e
    rw [← hj, ← hc]
    rw [addr_add]
  · intro v' w' h1 h2 _ h4
    refine h v' w' ?_ ?_ (fun k hk hne => h2.block k hk (fun e => hne e.symm)) h4
    · unfold Own
      rw [U_append, List.length_append, hl]
      exact h1
    · exact (Below.refl base w).grown h2 hbase (fun k hk => (World.ownsRow.lt hown k hk).1)

theorem Own.atZ {w : World} {base g n cap : Nat} {xs : List Nat} (h : Own w base (.slice (some ⟨g, 0, none⟩) n cap) xs) : n = xs.length ∧ base ≤ g ∧ g < w.heap.size ∧ xs.length ≤ cap ∧ cap ≤ maxLen ∧
    (∀ k, k < xs.length → w.cell? ⟨g, k, none⟩ = some (.int .u32 (xs.getD k 0 : Nat))) ∧ (∀ k, w.frozen? ⟨g, k, none⟩ = false) ∧
    (∀ k (b : Nat), k < xs.length → Own (w.setCell ⟨g, k, none⟩ (.int .u32 (b : Int))) base (.slice (some ⟨g, 0, none⟩) n cap) (xs.set k b)) ∧
    (∀ k j (v : Value), j ≠ g → (w.setCell ⟨g, k, none⟩ v).heap[j]? = w.heap[j]?) ∧ (∀ k (v : Value), (w.setCell ⟨g, k, none⟩ v).heap.size = w.heap.size) ∧
    (∀ B (W : World) k (v : Value), Below B W w → B ≤ g → Below B W (w.setCell ⟨g, k, none⟩ v)) := by
  obtain ⟨h1, h2⟩ := h
  rcases h2 with ⟨h0, _⟩ | ⟨g', cap', cur, e, hb, hg, hc, hm, hs, ht⟩
  · cases h0
  · simp only [Value.slice.injEq, Option.some.injEq, Addr.mk.injEq] at e
    obtain ⟨⟨rfl, _, _⟩, rfl, rfl⟩ := e
    refine ⟨rfl, hb, (Array.getElem?_eq_some_iff.1 hg).1, hc, hm, fun k hk => ?_, fun k => by simp [World.frozen?, hg], fun k b hk => ?_, fun k j v hj => ?_, fun k v => ?_, fun B W k v hB hBg => ?_⟩
    · have e : (cur.toList.take (xs.length * 1))[k]? = some (.int .u32 (xs.getD k 0 : Nat)) := by rw [ht]; exact U_get xs k hk
      rw [List.getElem?_take, if_pos (by omega)] at e
      simp only [World.cell?, hg]
      simpa using e
    · rw [setCell_eq_setRow w g k cur _ _ _ hg]
      have hg' := setRow_heap w g _ (cur.setIfInBounds k (.int .u32 (b : Int))) _ _ hg
      refine ⟨by simp [U], Or.inr ⟨g, cap, cur.setIfInBounds k (.int .u32 (b : Int)), by simp, hb, hg', by simpa using hc, hm, by simpa using hs, ?_⟩⟩
      rw [Array.toList_setIfInBounds, List.length_set, List.take_set, ht]
      unfold U
      rw [List.map_set]
    · rw [setCell_eq_setRow w g k cur _ _ _ hg]
      exact setRow_other w g j _ hj
    · rw [setCell_eq_setRow w g k cur _ _ _ hg]
      exact setRow_size w g _
    · rw [setCell_eq_setRow w g k cur _ _ _ hg]
      exact below_setRow hB hBg _

theorem Own.isRowZ {w : World} {base : Nat} {v : Value} {xs : List Nat} (h : Own w base v xs) (hne : xs ≠ []) : ∃ g cap, v = .slice (some ⟨g, 0, none⟩) xs.length cap ∧ base ≤ g := by
  obtain ⟨h1, h2⟩ := h
  rcases h2 with ⟨rfl, h0⟩ | ⟨g, cap, cur, rfl, hb, _⟩
  · exact absurd (List.length_eq_zero_iff.1 h0) hne
  · exact ⟨g, cap, rfl, hb⟩

theorem set_dropZ (Z xs : List Nat) (k z : Nat) (hZ : Z.length = k) (hk : k < xs.length) : (Z ++ xs.drop k).set k z = (Z ++ [z]) ++ xs.drop (k + 1) := by
  rw [List.set_append_right _ _ (by omega), hZ, Nat.sub_self, List.drop_eq_getElem_cons hk, List.set_cons_zero, List.append_assoc]
  rfl
theorem get_dropZ (Z xs : List Nat) (k : Nat) (hZ : Z.length = k) (hk : k < xs.length) : (Z ++ xs.drop k).getD k 0 = xs.getD k 0 := by
  rw [List.getD_eq_getElem?_getD, List.getElem?_append_right (by omega), hZ, Nat.sub_self, List.getElem?_drop, Nat.add_zero, ← List.getD_eq_getElem?_getD]

theorem Own.otherZ {w w' : World} {base : Nat} {v : Value} {xs : List Nat} (h : Own w base v xs) (hk : ∀ k, v.ownBlock = some k → w'.heap[k]? = w.heap[k]?) : Own w' base v xs := by
  obtain ⟨h1, h2⟩ := h
  refine ⟨h1, ?_⟩
  rcases h2 with h2 | ⟨g, cap, cur, rfl, h4, hg, hr⟩
  · exact Or.inl h2
  · exact Or.inr ⟨g, cap, cur, rfl, h4, (hk g rfl).trans hg, hr⟩

end Go.Proofs.Ytnbmpldfbbidmaa
