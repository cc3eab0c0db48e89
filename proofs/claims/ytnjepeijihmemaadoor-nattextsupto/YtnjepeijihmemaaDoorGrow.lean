/-
  nat.grow: a times m and c on top, in place but for a limb that comes behind.
-/
import Derived.Test.YtnjepeijihmemaaDoorText
namespace Go.Proofs.YtnjepeijihmemaaDoor
open Go.RowKit Nt
set_option linter.unusedSimpArgs false
set_option linter.unusedVariables false

theorem Own.at {w : World} {base g n cap : Nat} {xs : List Nat} (h : Own w base (.slice (some ⟨g, 0, none⟩) n cap) xs) : n = xs.length ∧ base ≤ g ∧ g < w.heap.size ∧ xs.length ≤ cap ∧ cap ≤ maxLen ∧
    (∀ k, k < xs.length → w.cell? ⟨g, k, none⟩ = some (.int .u32 (xs.getD k 0 : Nat))) ∧ (∀ k, w.frozen? ⟨g, k, none⟩ = false) ∧
    (∀ k (b : Nat), k < xs.length → Own (w.setCell ⟨g, k, none⟩ (.int .u32 (b : Int))) base (.slice (some ⟨g, 0, none⟩) n cap) (xs.set k b)) ∧
    (∀ k j (v : Value), j ≠ g → (w.setCell ⟨g, k, none⟩ v).heap[j]? = w.heap[j]?) ∧ (∀ k (v : Value), (w.setCell ⟨g, k, none⟩ v).heap.size = w.heap.size) ∧
    (∀ B (W : World) k (v : Value), Below B W w → B ≤ g → Below B W (w.setCell ⟨g, k, none⟩ v)) := by
  obtain ⟨h1, h2⟩ := h
  rcases h2 with ⟨h0, _⟩ | ⟨g', cap', cur, e, hb, hg, hc, hm, hs, ht⟩
  · cases h0
  · simp only [Value.slice.injEq, Option.some.injEq, Addr.mk.injEq] at e
    obtain ⟨⟨rfl, _, _⟩, rfl, rfl⟩ := e
    refine ⟨rfl, hb, (Array.getElem?_eq_some_iff.1 hg).1, hc, hm, fun k hk => ?_, fun k => by simp [World.frozen?, hg], fun k b hk => ?_, fun k j v hj => ?_, fun k v => ?_, fun B W k v hB hBg => ?_⟩
    · have e : (cur.toList.take (xs.length * 1))[k]? = some (.int .u32 (xs.getD k 0 : Nat)) := by rw [ht]; exact U_get xs k hk
      rw [List.getElem?_take, if_pos (by omega)] at e
      simp only [World.cell?, hg]
      simpa using e
    · rw [setCell_eq_setRow w g k cur _ _ _ hg]
      have hg' := setRow_heap w g _ (cur.setIfInBounds k (.int .u32 (b : Int))) _ _ hg
      refine ⟨by simp [U], Or.inr ⟨g, cap, cur.setIfInBounds k (.int .u32 (b : Int)), by simp, hb, hg', by simpa using hc, hm, by simpa using hs, ?_⟩⟩
      rw [Array.toList_setIfInBounds, List.length_set, List.take_set, ht]
      unfold U
      rw [List.map_set]
    · rw [setCell_eq_setRow w g k cur _ _ _ hg]
      exact setRow_other w g j _ hj
    · rw [setCell_eq_setRow w g k cur _ _ _ hg]
      exact setRow_size w g _
    · rw [setCell_eq_setRow w g k cur _ _ _ hg]
      exact below_setRow hB hBg _

theorem Own.isRow {w : World} {base : Nat} {v : Value} {xs : List Nat} (h : Own w base v xs) (hne : xs ≠ []) : ∃ g cap, v = .slice (some ⟨g, 0, none⟩) xs.length cap ∧ base ≤ g := by
  obtain ⟨h1, h2⟩ := h
  rcases h2 with ⟨rfl, h0⟩ | ⟨g, cap, cur, rfl, hb, _⟩
  · exact absurd (List.length_eq_zero_iff.1 h0) hne
  · exact ⟨g, cap, rfl, hb⟩

theorem grow_step {M VZ X m c cy x z cy' : Nat} (h : VZ + M * cy = X * m + c) (hz : z + 4294967296 * cy' = cy + x * m) : VZ + M * z + M * 4294967296 * cy' = (X + M * x) * m + c := by
  have h1 : M * (z + 4294967296 * cy') = M * (cy + x * m) := by rw [hz]
  grind
theorem set_drop (Z xs : List Nat) (k z : Nat) (hZ : Z.length = k) (hk : k < xs.length) : (Z ++ xs.drop k).set k z = (Z ++ [z]) ++ xs.drop (k + 1) := by
  rw [List.set_append_right _ _ (by omega), hZ, Nat.sub_self, List.drop_eq_getElem_cons hk, List.set_cons_zero, List.append_assoc]
  rfl
theorem get_drop (Z xs : List Nat) (k : Nat) (hZ : Z.length = k) (hk : k < xs.length) : (Z ++ xs.drop k).getD k 0 = xs.getD k 0 := by
  rw [List.getD_eq_getElem?_getD, List.getElem?_append_right (by omega), hZ, Nat.sub_self, List.getElem?_drop, Nat.add_zero, ← List.getD_eq_getElem?_getD]

set_option maxHeartbeats 4000000 in
theorem grow_c (w : World) (base g n cap : Nat) (xs : List Nat) (m c : Nat) (h : Own w base (.slice (some ⟨g, 0, none⟩) n cap) xs) (ho : Ok xs) (hb : base ≤ w.heap.size) (hm : m < 4294967296) (hc : c < 4294967296) (hn : n ≤ 1099511627776) :
    Calls Tryd.prog 28 #[.slice (some ⟨g, 0, none⟩) n cap, .int .u32 m, .int .u32 c] w fun e w' => ∃ (g' n' cap' : Nat) (xs' : List Nat), e = .returned (.slice (some ⟨g', 0, none⟩) n' cap') ∧ Own w' base (.slice (some ⟨g', 0, none⟩) n' cap') xs' ∧ Ok xs' ∧ val xs' = val xs * m + c ∧ n' ≤ n + 1 ∧ (∀ k, k < w.heap.size → k ≠ g → w'.heap[k]? = w.heap[k]?) ∧ (g' = g ∨ w.heap.size ≤ g') ∧ Below base w w' := by
  obtain ⟨hnl, hbg, hgs, hxc, hcm, -⟩ := h.at
  rw [← hnl] at hxc
  unfold maxLen at hcm
  have HNL := hid hnl
  have HO := hid h
  have HOK := hid ho
  clear h ho hnl
  go_enter Tryd.func28, Tryd.ntmps28
  go_wp2_with fail
  go_loopg [7, 13] n (fun gk s7 s13 wr => ∃ (k cy : Nat) (Z : List Nat), n - k ≤ gk ∧ k ≤ n ∧ s13 = .int .i64 k ∧ s7 = .int .u64 cy ∧ cy < 4294967296 ∧ Hid (Z.length = k ∧ Ok Z ∧ val Z + 4294967296 ^ k * cy = val (xs.take k) * m + c ∧ Own wr base (.slice (some ⟨g, 0, none⟩) n cap) (Z ++ xs.drop k) ∧ (∀ j, j ≠ g → wr.heap[j]? = w.heap[j]?) ∧ wr.heap.size = w.heap.size ∧ Below base w wr))
  case atStart => exact ⟨0, c, [], Nat.sub_le _ _, Nat.zero_le _, rfl, rfl, hc, rfl, Ok.nil, by simp [val], by simpa using HO.out, fun _ _ => rfl, rfl, Below.refl _ _⟩
  case round =>
    obtain ⟨k, cy, Z, hgk, hk, rfl, rfl, hcy, HR⟩ := hrel
    by_cases hlt : k < n
    · obtain ⟨-, -, -, -, -, hcell, hfr, hset, hoth, hsz, hbel⟩ := HR.out.2.2.2.1.at
      have hkx : k < xs.length := by rw [← HNL.out]; exact hlt
      have hkl : k < (Z ++ xs.drop k).length := by rw [List.length_append, HR.out.1, List.length_drop]; omega
      have h1 := hcell k hkl
      rw [get_drop Z xs k HR.out.1 hkx] at h1
      have h2 := hfr k
      obtain ⟨x, hx⟩ : ∃ x, xs.getD k 0 = x := ⟨_, rfl⟩
      rw [hx] at h1
      have hxb : x < 4294967296 := by rw [← hx]; exact HOK.out.getD k
      have xm : x * m ≤ 18446744065119617025 := by
        have e1 : x * m ≤ 4294967295 * 4294967295 := Nat.mul_le_mul (by omega) (by omega)
        omega
      have xm1 : (x : Int) * (m : Int) ≤ 18446744065119617025 := by rw [← Int.natCast_mul]; omega
      have xm0 : 0 ≤ (x : Int) * (m : Int) := by rw [← Int.natCast_mul]; omega
      have HSET := hid (And.intro hset (And.intro hoth (And.intro hsz hbel)))
      have HX := hid hx
      clear hcell hfr hset hoth hsz hbel hx
      go_wp2_with fail
      go_roundg (n - (k + 1))
      case measure => omega
      case rel =>
        obtain ⟨z1, z2, z3, z4, z5, z6, z7⟩ := HR.out
        have ez : ((cy : Int) + (x : Int) * (m : Int)) % 4294967296 = (((cy + x * m) % 4294967296 : Nat) : Int) := by rw [← Int.natCast_mul]; omega
        have ec : ((cy : Int) + (x : Int) * (m : Int)) / 4294967296 = (((cy + x * m) / 4294967296 : Nat) : Int) := by rw [← Int.natCast_mul]; omega
        rw [ez, ec]
        have hs := HSET.out.1 k ((cy + x * m) % 4294967296) hkl
        rw [set_drop Z xs k _ z1 hkx] at hs
        refine ⟨k + 1, (cy + x * m) / 4294967296, Z ++ [(cy + x * m) % 4294967296], Nat.le_refl _, by omega, by go_num, rfl, by omega, by simp [z1], z2.snoc (by omega), ?_, hs, ?_, ?_, ?_⟩
        · rw [val_snoc, z1, val_take_succ xs k hkx, HX.out, Nat.pow_succ]
          exact grow_step z3 (by omega)
        · intro j hj
          rw [HSET.out.2.1 k j _ hj]
          exact z5 j hj
        · rw [HSET.out.2.2.1]; exact z6
        · exact HSET.out.2.2.2 _ _ _ _ z7 hbg
    · have hkn : k = n := by omega
      obtain ⟨z1, z2, z3, z4, z5, z6, z7⟩ := HR.out
      rw [hkn, List.take_of_length_le (by rw [← HNL.out]; exact Nat.le_refl _)] at z3
      rw [hkn, List.drop_of_length_le (by rw [← HNL.out]; exact Nat.le_refl _), List.append_nil] at z4
      rw [hkn] at z1
      have HZ := hid (And.intro z1 (And.intro z2 (And.intro z3 (And.intro z4 (And.intro z5 (And.intro z6 z7))))))
      clear z1 z2 z3 z4 z5 z6 z7 HR hkn
      by_cases hcz : cy = 0
      · subst hcz
        go_wp2_with fail
        go_ret
        obtain ⟨z1, z2, z3, z4, z5, z6, z7⟩ := HZ.out
        exact ⟨g, n, cap, Z, rfl, z4, z2, by rw [← z3]; simp, by omega, fun j _ hj => z5 j hj, Or.inl rfl, z7⟩
      · have hc0 : ((cy : Int) != 0) = true := by simp; omega
        have hs6 : base ≤ wr.heap.size := by rw [HZ.out.2.2.2.2.2.1]; exact hb
        go_wp2_with (at_builtin; refine append_u32_at _ rfl (.tmp 36) (.tmp 39) rfl base _ Z rfl (HZ.out.2.2.2.1.alloc _) ⟨wr.heap.size, 0, none⟩ 1 1 [cy] rfl rfl (limbs_lit wr cy rfl) (by have := HZ.out.1; omega) (by simp; omega) ?_; intro v' w3 hown' hbel hoth hat)
        obtain ⟨g', cap', rfl, hg'⟩ := hown'.isRow (by simp)
        go_ret
        obtain ⟨z1, z2, z3, z4, z5, z6, z7⟩ := HZ.out
        refine ⟨g', (Z ++ [cy]).length, cap', Z ++ [cy], rfl, hown', z2.snoc (by omega), ?_, ?_, ?_, ?_, ?_⟩
        · rw [val_snoc, z1]; exact z3
        · rw [List.length_append, z1]; exact Nat.le_refl _
        · intro j hj hne
          have e1 := hoth j (by simp; omega) (fun e => hne (Option.some.inj e).symm)
          rw [e1, heap_alloc_old' wr _ j (by omega)]
          exact z5 j hne
        · rcases hat with e | e
          · exact Or.inl (Option.some.inj e)
          · refine Or.inr ?_
            have e1 : g' = (wr.alloc (.cells #[.int .u32 (cy : Int)] 39)).heap.size := Option.some.inj e
            rw [e1]
            simp
            omega
        · have e1 := z7.alloc (by omega) (.cells #[.int .u32 (cy : Int)] 39)
          exact ⟨hbel.os.trans e1.os, hbel.tape.trans e1.tape, hbel.output.trans e1.output, Nat.le_trans e1.size hbel.size, fun i hi => (hbel.block i hi).trans (e1.block i hi)⟩
end Go.Proofs.YtnjepeijihmemaaDoor
