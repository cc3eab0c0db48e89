import Derived.Test.YtaplbadcpbollaaGreatDoorTxA
import Derived.Test.YtaplbadcpbollaaGreatDoorTxB
import Derived.Laws.RangeAny
import Derived.Lib.OthersKept
/-
  nat.grow: a times m and c on top, in place but for a limb that comes behind.
-/
namespace Go.Proofs.YtaplbadcpbollaaGreatDoor
open Go.RowKit Nt
set_option linter.unusedSimpArgs false
set_option linter.unusedVariables false
set_option maxRecDepth 20000

theorem Own.at {w : World} {base g n cap : Nat} {xs : List Nat} (h : Own w base (.slice (some ⟨g, 0, none⟩) n cap) xs) : n = xs.length ∧ base ≤ g ∧ g < w.heap.size ∧ xs.length ≤ cap ∧ cap ≤ maxLen ∧
    (∀ k, k < xs.length → w.cell? ⟨g, k, none⟩ = some (.int .u32 (xs.getD k 0 : Nat))) ∧ (∀ k, w.frozen? ⟨g, k, none⟩ = false) ∧
    (∀ k (b : Nat), k < xs.length → Own (w.setCell ⟨g, k, none⟩ (.int .u32 (b : Int))) base (.slice (some ⟨g, 0, none⟩) n cap) (xs.set k b)) ∧
    (∀ k j (v : Value), j ≠ g → (w.setCell ⟨g, k, none⟩ v).heap[j]? = w.heap[j]?) ∧ (∀ k (v : Value), (w.setCell ⟨g, k, none⟩ v).heap.size = w.heap.size) ∧
    (∀ B (W : World) k (v : Value), Below B W w → B ≤ g → Below B W (w.setCell ⟨g, k, none⟩ v)) := by
  obtain ⟨h1, h2⟩ := h
  rcases h2 with ⟨h0, _⟩ | ⟨g', cap', cur, e, hb, hg, hc, hm, hs, ht⟩
  · cases h0
  · simp only [Value.slice.injEq, Option.some.injEq, Addr.mk.injEq] at e
    obtain ⟨⟨rfl, _, _⟩, rfl, rfl⟩ := e
    refine ⟨rfl, hb, (Array.getElem?_eq_some_iff.1 hg).1, hc, hm, fun k hk => ?_, fun k => by simp [World.frozen?, hg], fun k b hk => ?_, fun k j v hj => ?_, fun k v => ?_, fun B W k v hB hBg => ?_⟩
    · have e : (cur.toList.take (xs.length * 1))[k]? = some (.int .u32 (xs.getD k 0 : Nat)) := by rw [ht]; exact U_get xs k hk
      rw [List.getElem?_take, if_pos (by omega)] at e
      simp only [World.cell?, hg]
      simpa using e
    · rw [setCell_eq_setRow w g k cur _ _ _ hg]
      have hg' := setRow_heap w g _ (cur.setIfInBounds k (.int .u32 (b : Int))) _ _ hg
      refine ⟨by simp [U], Or.inr ⟨g, cap, cur.setIfInBounds k (.int .u32 (b : Int)), by simp, hb, hg', by simpa using hc, hm, by simpa using hs, ?_⟩⟩
      rw [Array.toList_setIfInBounds, List.length_set, List.take_set, ht]
      unfold U
      rw [List.map_set]
    · rw [setCell_eq_setRow w g k cur _ _ _ hg]
      exact setRow_other w g j _ hj
    · rw [setCell_eq_setRow w g k cur _ _ _ hg]
      exact setRow_size w g _
    · rw [setCell_eq_setRow w g k cur _ _ _ hg]
      exact below_setRow hB hBg _

theorem Own.isRow {w : World} {base : Nat} {v : Value} {xs : List Nat} (h : Own w base v xs) (hne : xs ≠ []) : ∃ g cap, v = .slice (some ⟨g, 0, none⟩) xs.length cap ∧ base ≤ g := by
  obtain ⟨h1, h2⟩ := h
  rcases h2 with ⟨rfl, h0⟩ | ⟨g, cap, cur, rfl, hb, _⟩
  · exact absurd (List.length_eq_zero_iff.1 h0) hne
  · exact ⟨g, cap, rfl, hb⟩

theorem grow_step {M VZ X m c cy x z cy' : Nat} (h : VZ + M * cy = X * m + c) (hz : z + 4294967296 * cy' = cy + x * m) : VZ + M * z + M * 4294967296 * cy' = (X + M * x) * m + c := by
  have h1 : M * (z + 4294967296 * cy') = M * (cy + x * m) := by rw [hz]
  grind
theorem set_drop (Z xs : List Nat) (k z : Nat) (hZ : Z.length = k) (hk : k < xs.length) : (Z ++ xs.drop k).set k z = (Z ++ [z]) ++ xs.drop (k + 1) := by
  rw [List.set_append_right _ _ (by omega), hZ, Nat.sub_self, List.drop_eq_getElem_cons hk, List.set_cons_zero, List.append_assoc]
  rfl
theorem get_drop (Z xs : List Nat) (k : Nat) (hZ : Z.length = k) (hk : k < xs.length) : (Z ++ xs.drop k).getD k 0 = xs.getD k 0 := by
  rw [List.getD_eq_getElem?_getD, List.getElem?_append_right (by omega), hZ, Nat.sub_self, List.getElem?_drop, Nat.add_zero, ← List.getD_eq_getElem?_getD]

set_option maxHeartbeats 4000000 in
theorem grow_c (w : World) (base g n cap : Nat) (xs : List Nat) (m c : Nat) (h : Own w base (.slice (some ⟨g, 0, none⟩) n cap) xs) (ho : Ok xs) (hb : base ≤ w.heap.size) (hm : m < 4294967296) (hc : c < 4294967296) (hn : n ≤ 1099511627776) :
    Calls Tryz.prog 109 #[.slice (some ⟨g, 0, none⟩) n cap, .int .u32 m, .int .u32 c] w fun e w' => ∃ (g' n' cap' : Nat) (xs' : List Nat), e = .returned (.slice (some ⟨g', 0, none⟩) n' cap') ∧ Own w' base (.slice (some ⟨g', 0, none⟩) n' cap') xs' ∧ Ok xs' ∧ val xs' = val xs * m + c ∧ n' ≤ n + 1 ∧ (∀ k, k < w.heap.size → k ≠ g → w'.heap[k]? = w.heap[k]?) ∧ (g' = g ∨ w.heap.size ≤ g') ∧ Below base w w' := by
  obtain ⟨hnl, hbg, hgs, hxc, hcm, -⟩ := h.at
  rw [← hnl] at hxc
  unfold maxLen at hcm
  have HNL := hid hnl
  have HO := hid h
  have HOK := hid ho
  clear h ho hnl
  go_enter Tryz.func109, Tryz.ntmps109
  go_wp2_with fail
  go_loopg [7, 13] n (fun gk s7 s13 wr => ∃ (k cy : Nat) (Z : List Nat), n - k ≤ gk ∧ k ≤ n ∧ s13 = .int .i64 k ∧ s7 = .int .u64 cy ∧ cy < 4294967296 ∧ Hid (Z.length = k ∧ Ok Z ∧ val Z + 4294967296 ^ k * cy = val (xs.take k) * m + c ∧ Own wr base (.slice (some ⟨g, 0, none⟩) n cap) (Z ++ xs.drop k) ∧ (∀ j, j ≠ g → wr.heap[j]? = w.heap[j]?) ∧ wr.heap.size = w.heap.size ∧ Below base w wr))
  case atStart => exact ⟨0, c, [], Nat.sub_le _ _, Nat.zero_le _, rfl, rfl, hc, rfl, Ok.nil, by simp [val], by simpa using HO.out, fun _ _ => rfl, rfl, Below.refl _ _⟩
  case round =>
    obtain ⟨k, cy, Z, hgk, hk, rfl, rfl, hcy, HR⟩ := hrel
    by_cases hlt : k < n
    · obtain ⟨-, -, -, -, -, hcell, hfr, hset, hoth, hsz, hbel⟩ := HR.out.2.2.2.1.at
      have hkx : k < xs.length := by rw [← HNL.out]; exact hlt
      have hkl : k < (Z ++ xs.drop k).length := by rw [List.length_append, HR.out.1, List.length_drop]; omega
      have h1 := hcell k hkl
      rw [get_drop Z xs k HR.out.1 hkx] at h1
      have h2 := hfr k
      obtain ⟨x, hx⟩ : ∃ x, xs.getD k 0 = x := ⟨_, rfl⟩
      rw [hx] at h1
      have hxb : x < 4294967296 := by rw [← hx]; exact HOK.out.getD k
      have xm : x * m ≤ 18446744065119617025 := by
        have e1 : x * m ≤ 4294967295 * 4294967295 := Nat.mul_le_mul (by omega) (by omega)
        omega
      have xm1 : (x : Int) * (m : Int) ≤ 18446744065119617025 := by rw [← Int.natCast_mul]; omega
      have xm0 : 0 ≤ (x : Int) * (m : Int) := by rw [← Int.natCast_mul]; omega
      have HSET := hid (And.intro hset (And.intro hoth (And.intro hsz hbel)))
      have HX := hid hx
      clear hcell hfr hset hoth hsz hbel hx
      go_wp2_with fail
      go_roundg (n - (k + 1))
      case measure => omega
      case rel =>
        obtain ⟨z1, z2, z3, z4, z5, z6, z7⟩ := HR.out
        have ez : ((cy : Int) + (x : Int) * (m : Int)) % 4294967296 = (((cy + x * m) % 4294967296 : Nat) : Int) := by rw [← Int.natCast_mul]; omega
        have ec : ((cy : Int) + (x : Int) * (m : Int)) / 4294967296 = (((cy + x * m) / 4294967296 : Nat) : Int) := by rw [← Int.natCast_mul]; omega
        rw [ez, ec]
        have hs := HSET.out.1 k ((cy + x * m) % 4294967296) hkl
        rw [set_drop Z xs k _ z1 hkx] at hs
        refine ⟨k + 1, (cy + x * m) / 4294967296, Z ++ [(cy + x * m) % 4294967296], Nat.le_refl _, by omega, by go_num, rfl, by omega, by simp [z1], z2.snoc (by omega), ?_, hs, ?_, ?_, ?_⟩
        · rw [val_snoc, z1, val_take_succ xs k hkx, HX.out, Nat.pow_succ]
          exact grow_step z3 (by omega)
        · intro j hj
          rw [HSET.out.2.1 k j _ hj]
          exact z5 j hj
        · rw [HSET.out.2.2.1]; exact z6
        · exact HSET.out.2.2.2 _ _ _ _ z7 hbg
    · have hkn : k = n := by omega
      obtain ⟨z1, z2, z3, z4, z5, z6, z7⟩ := HR.out
      rw [hkn, List.take_of_length_le (by rw [← HNL.out]; exact Nat.le_refl _)] at z3
      rw [hkn, List.drop_of_length_le (by rw [← HNL.out]; exact Nat.le_refl _), List.append_nil] at z4
      rw [hkn] at z1
      have HZ := hid (And.intro z1 (And.intro z2 (And.intro z3 (And.intro z4 (And.intro z5 (And.intro z6 z7))))))
      clear z1 z2 z3 z4 z5 z6 z7 HR hkn
      by_cases hcz : cy = 0
      · subst hcz
        go_wp2_with fail
        go_ret
        obtain ⟨z1, z2, z3, z4, z5, z6, z7⟩ := HZ.out
        exact ⟨g, n, cap, Z, rfl, z4, z2, by rw [← z3]; simp, by omega, fun j _ hj => z5 j hj, Or.inl rfl, z7⟩
      · have hc0 : ((cy : Int) != 0) = true := by simp; omega
        have hs6 : base ≤ wr.heap.size := by rw [HZ.out.2.2.2.2.2.1]; exact hb
        go_wp2_with (at_builtin; refine append_u32_at _ rfl (.tmp 36) (.tmp 39) rfl base _ Z rfl (HZ.out.2.2.2.1.alloc _) ⟨wr.heap.size, 0, none⟩ 1 1 [cy] rfl rfl (limbs_lit wr cy rfl) (by have := HZ.out.1; omega) (by simp; omega) ?_; intro v' w3 hown' hbel hoth hat)
        obtain ⟨g', cap', rfl, hg'⟩ := hown'.isRow (by simp)
        go_ret
        obtain ⟨z1, z2, z3, z4, z5, z6, z7⟩ := HZ.out
        refine ⟨g', (Z ++ [cy]).length, cap', Z ++ [cy], rfl, hown', z2.snoc (by omega), ?_, ?_, ?_, ?_, ?_⟩
        · rw [val_snoc, z1]; exact z3
        · rw [List.length_append, z1]; exact Nat.le_refl _
        · intro j hj hne
          have e1 := hoth j (by simp; omega) (fun e => hne (Option.some.inj e).symm)
          rw [e1, heap_alloc_old' wr _ j (by omega)]
          exact z5 j hne
        · rcases hat with e | e
          · exact Or.inl (Option.some.inj e)
          · refine Or.inr ?_
            have e1 : g' = (wr.alloc (.cells #[.int .u32 (cy : Int)] 67)).heap.size := Option.some.inj e
            rw [e1]
            simp
            omega
        · have e1 := z7.alloc (by omega) (.cells #[.int .u32 (cy : Int)] 67)
          exact ⟨hbel.os.trans e1.os, hbel.tape.trans e1.tape, hbel.output.trans e1.output, Nat.le_trans e1.size hbel.size, fun i hi => (hbel.block i hi).trans (e1.block i hi)⟩
end Go.Proofs.YtaplbadcpbollaaGreatDoor

/-
  nat.ofDigits: the number of a text of nothing but digits.
-/
namespace Go.Proofs.YtaplbadcpbollaaGreatDoor
open Go.RowKit Nt
set_option linter.unusedSimpArgs false
set_option linter.unusedVariables false
set_option maxRecDepth 20000

theorem Own.iterAt {w : World} {base : Nat} {v : Value} {xs : List Nat} (h : Own w base v xs) {k : Nat} {s : ByteArray} {pos : Nat} (hk : w.heap[k]? = some (.stringIter s pos)) (pos' : Nat) : Own (w.iterAt k s pos') base v xs := by
  obtain ⟨h1, h2⟩ := h
  refine ⟨h1, ?_⟩
  rcases h2 with h2 | ⟨g, cap, cur, rfl, h4, hg, hr⟩
  · exact Or.inl h2
  · refine Or.inr ⟨g, cap, cur, rfl, h4, ?_, hr⟩
    rw [Lib.iterAt_other _ _ _ _ _ (fun e => by rw [e, hk] at hg; cases hg)]
    exact hg

/-- What ofDigits' loop keeps. -/
structure OD (w wr : World) (s : ByteArray) (pos k g n cap chunk j : Nat) (xs : List Nat) : Prop where
  own : Own wr w.heap.size (.slice (some ⟨g, 0, none⟩) n cap) xs
  ok : Ok xs
  iter : wr.heap[k]? = some (.stringIter s pos)
  apart : g ≠ k
  sum : decV (s.data.toList.take pos) = val xs * 10 ^ j + chunk
  low : chunk < 10 ^ j
  few : j < 9
  below : Below w.heap.size w wr
  len : n ≤ pos

theorem data_getD (s : ByteArray) (k : Nat) (h : k < s.size) : s.data.toList.getD k 0 = s[k]'h := by
  rw [List.getD_eq_getElem?_getD, List.getElem?_eq_getElem (by simpa using h)]
  rfl

set_option maxHeartbeats 4000000 in
theorem ofDigits_c (w : World) (s : ByteArray) (hs : s.size ≤ 65536) (hd : ∀ i, i < s.size → dig (s.data.toList.getD i 0)) :
    Calls Tryz.prog 88 #[.string s] w fun e w' => ∃ r cr, e = .returned (.slice r (digs (decV s.data.toList)).length cr) ∧ Ans w w' r cr (decV s.data.toList) := by
  have HD := hid hd
  clear hd
  go_enter Tryz.func88, Tryz.ntmps88
  go_wp2_with fail
  obtain ⟨W0, hW0⟩ : ∃ W, W = w.alloc (.cells #[] 67) := ⟨_, rfl⟩
  have hB0 : Below w.heap.size w W0 := by rw [hW0]; exact (Below.refl _ _).alloc (Nat.le_refl _) _
  have hG0 : W0.heap[w.heap.size]? = some (.cells #[] 67) := by rw [hW0]; exact heap_alloc_last _ _
  have hS0 : W0.heap.size = w.heap.size + 1 := by rw [hW0]; simp
  rw [← hW0]
  obtain ⟨k, hk⟩ : ∃ k, k = w.heap.size + 1 := ⟨_, rfl⟩
  obtain ⟨W1, hW1⟩ : ∃ W, W = W0.iter s 0 := ⟨_, rfl⟩
  have hI1 : W1.heap[k]? = some (.stringIter s 0) := by rw [hW1, hk, ← hS0]; exact World.iter_heap W0 s 0
  have hB1 : Below w.heap.size w W1 := by rw [hW1]; exact hB0.alloc (by omega) _
  have hG1 : W1.heap[w.heap.size]? = some (.cells #[] 67) := by rw [hW1, show (W0.iter s 0).heap[w.heap.size]? = W0.heap[w.heap.size]? from heap_alloc_old' W0 _ _ (by omega)]; exact hG0
  rw [← hW1, ← hk]
  obtain ⟨g0, hg0⟩ : ∃ g, g = w.heap.size := ⟨_, rfl⟩
  have OD0 : Hid (OD w W1 s 0 k g0 0 0 0 0 []) := by
    refine ⟨⟨rfl, Or.inr ⟨g0, 0, #[], rfl, by omega, by rw [hg0]; exact hG1, Nat.le_refl _, by unfold maxLen; omega, rfl, rfl⟩⟩, Ok.nil, hI1, by omega, rfl, by omega, by omega, hB1, Nat.le_refl _⟩
  rw [← hg0]
  have HK := hid (show w.heap.size < k by omega)
  clear hW0 hB0 hG0 hS0 hk hW1 hI1 hB1 hG1 hg0
  go_loopg [3, 4, 5] s.size (fun gk s3 s4 s5 wr => ∃ (pos g n cap chunk j : Nat) (xs : List Nat), s.size - pos ≤ gk ∧ pos ≤ s.size ∧ n ≤ pos ∧ chunk < 1000000000 ∧ j < 9 ∧ chunk < 10 ^ j ∧ s3 = .slice (some ⟨g, 0, none⟩) n cap ∧ s4 = .int .u32 chunk ∧ s5 = .int .u32 (10 ^ j : Nat) ∧ Hid (OD w wr s pos k g n cap chunk j xs))
  case atStart => exact ⟨0, g0, 0, 0, 0, 0, [], Nat.sub_le _ _, Nat.zero_le _, Nat.le_refl _, by omega, by omega, by omega, rfl, rfl, rfl, OD0.out⟩
  case round =>
    obtain ⟨pos, g, n, cap, chunk, j, xs, hgk, hpos, hn, hch, hj, hcj, rfl, rfl, rfl, HR⟩ := hrel
    obtain ⟨P, hP⟩ : ∃ P, 10 ^ j = P := ⟨_, rfl⟩
    have hPb : P ≤ 100000000 := by
      rw [← hP]
      have : 10 ^ j ≤ 10 ^ 8 := Nat.pow_le_pow_right (by omega) (by omega)
      omega
    rw [hP] at hcj ⊢
    have HP := hid hP
    clear hP
    by_cases hlt : pos < s.size
    · have hdg := HD.out pos hlt
      rw [data_getD s pos hlt] at hdg
      obtain ⟨d, hd⟩ : ∃ d, (s[pos]'hlt).toNat = d := ⟨_, rfl⟩
      unfold dig at hdg
      have hnx : ∀ ty, (Instr.next (.pointer (some ⟨k, 0, none⟩)) true ty).run Tryz.prog wr = .ok (.tuple #[.bool true, .int .i64 pos, .int .i32 d]) (wr.iterAt k s (pos + 1)) := by
        intro ty
        rw [← hd]
        exact Lib.run_next_ascii_at wr k s pos ty HR.out.iter hlt (by omega)
      rw [hd] at hdg
      have hd1 : 48 ≤ d := hdg.1
      have hd2 : d ≤ 57 := hdg.2
      have HDD := hid hd
      clear hdg hd
      by_cases hj8 : j = 8
      · have hP8 : P = 100000000 := by rw [← HP.out, hj8]
        subst hP8
        have GR := hid (grow_c (wr.iterAt k s (pos + 1)) w.heap.size g n cap xs 1000000000 (chunk * 10 + (d - 48)) (HR.out.own.iterAt HR.out.iter _) HR.out.ok (by rw [Lib.iterAt_size]; exact HR.out.below.size) (by omega) (by omega) (by omega))
        have hcv : (chunk : Int) * 10 + ((d : Int) - 48) = ((chunk * 10 + (d - 48) : Nat) : Int) := by omega
        rw [← hcv] at GR
        clear hcv
        go_wp2_with fail
        refine GR.out.mono ?_
        rintro e W2 ⟨g', n', cap', xs', rfl, o1, o2, o3, o4, o5, o6, o7⟩
        have HO := hid (And.intro o1 (And.intro o2 (And.intro o3 (And.intro o5 (And.intro o6 o7)))))
        clear o1 o2 o3 o5 o6 o7 GR
        go_wp2_with fail
        go_roundg (s.size - (pos + 1))
        case measure => omega
        case rel =>
          obtain ⟨o1, o2, o3, o5, o6, o7⟩ := HO.out
          have hks : k < (wr.iterAt k s (pos + 1)).heap.size := by rw [Lib.iterAt_size]; exact (Array.getElem?_eq_some_iff.1 HR.out.iter).1
          refine ⟨pos + 1, g', n', cap', 0, 0, xs', Nat.le_refl _, by omega, by omega, by omega, by omega, by omega, rfl, rfl, rfl, o1, o2, ?_, ?_, ?_, by omega, by omega, ?_, by omega⟩
          · rw [o5 k hks (Ne.symm HR.out.apart)]
            exact Lib.iterAt_heap wr k s pos _ HR.out.iter
          · rcases o6 with e | e
            · rw [e]; exact HR.out.apart
            · omega
          · rw [take_snocB _ _ (by simpa using hlt), decV_snoc, data_getD s pos hlt, HDD.out, HR.out.sum, o3, hj8]
            omega
          · have e1 := Lib.below_iterAt HR.out.below (k := k) (Nat.le_of_lt HK.out) s (pos + 1)
            exact ⟨o7.os.trans e1.os, o7.tape.trans e1.tape, o7.output.trans e1.output, Nat.le_trans e1.size o7.size, fun i hi => (o7.block i hi).trans (e1.block i hi)⟩
      · have hPn : P * 10 ≤ 100000000 := by
          rw [← HP.out, ← Nat.pow_succ]
          have : 10 ^ (j + 1) ≤ 10 ^ 8 := Nat.pow_le_pow_right (by omega) (by omega)
          omega
        have hPe : ((P : Int) * 10 == 1000000000) = false := beq_eq_false_iff_ne.2 (by omega)
        go_wp2_with fail
        go_roundg (s.size - (pos + 1))
        case measure => omega
        case rel =>
          have hP1 : 10 ^ (j + 1) = P * 10 := by rw [Nat.pow_succ, HP.out]
          refine ⟨pos + 1, g, n, cap, chunk * 10 + (d - 48), j + 1, xs, Nat.le_refl _, by omega, by omega, by omega, by omega, by rw [hP1]; omega, rfl, ?_, ?_, HR.out.own.iterAt HR.out.iter _, HR.out.ok, Lib.iterAt_heap wr k s pos _ HR.out.iter, HR.out.apart, ?_, by rw [hP1]; omega, by omega, Lib.below_iterAt HR.out.below (Nat.le_of_lt HK.out) s _, by omega⟩
          · simp only [Value.int.injEq, true_and]; omega
          · rw [hP1]; simp
          · rw [take_snocB _ _ (by simpa using hlt), decV_snoc, data_getD s pos hlt, HDD.out, HR.out.sum, Nat.pow_succ, Nat.add_mul, Nat.mul_assoc]
            omega
    · have hps : pos = s.size := by omega
      have hnx : ∀ ty, (Instr.next (.pointer (some ⟨k, 0, none⟩)) true ty).run Tryz.prog wr = .ok (.tuple #[.bool false]) wr := fun ty => Lib.run_next_end_at wr k s pos ty HR.out.iter hlt
      have GR := hid (grow_c wr w.heap.size g n cap xs P chunk HR.out.own HR.out.ok HR.out.below.size (by omega) (by omega) (by omega))
      have hsum : decV s.data.toList = val xs * P + chunk := by
        have := HR.out.sum
        rw [hps, HP.out, List.take_of_length_le (by simp)] at this
        exact this
      have HSUM := hid hsum
      have HB := hid HR.out.below
      clear hps hsum HR
      go_wp2_with fail
      refine GR.out.mono ?_
      rintro e W2 ⟨g', n', cap', xs', rfl, o1, o2, o3, o4, o5, o6, o7⟩
      rw [← HSUM.out] at o3
      have hbg := o1.at.2.1
      obtain ⟨p2, c2, e2, S2⟩ := o1.sl o2
      simp only [Value.slice.injEq] at e2
      obtain ⟨rfl, rfl, rfl⟩ := e2
      have TR := hid (trim_s W2 (some ⟨g', 0, none⟩) xs'.length cap' (digs (decV s.data.toList)).length xs' (by rw [o3]) S2)
      have HA : Hid (Ans w W2 (some ⟨g', 0, none⟩) cap' (decV s.data.toList)) := by
        refine ⟨⟨o7.os.trans HB.out.os, o7.tape.trans HB.out.tape, o7.output.trans HB.out.output, Nat.le_trans HB.out.size o7.size, fun i hi => (o7.block i hi).trans (HB.out.block i hi)⟩, ?_, fun b o e => ?_⟩
        · have := S2.digs
          rw [o3] at this
          exact this
        · simp only [Option.some.injEq, Addr.mk.injEq] at e
          omega
      clear o1 o2 o3 o4 o5 o6 o7 S2 GR
      go_wp2_with fail
      refine TR.out.mono ?_
      rintro e W3 ⟨rfl, rfl⟩
      go_wp2_with fail
      go_ret
      exact ⟨_, _, rfl, HA.out⟩
end Go.Proofs.YtaplbadcpbollaaGreatDoor

/-
  nat.Read, whole.
-/
namespace Go.Proofs.YtaplbadcpbollaaGreatDoor
open Go.RowKit Nt
set_option linter.unusedSimpArgs false
set_option linter.unusedVariables false
set_option maxRecDepth 20000

theorem read_empty (w : World) : Calls Tryz.prog 56 #[.string ⟨#[]⟩] w fun e w' => e = .returned (.tuple #[.slice none 0 0, .int .i64 0, .int .i64 4]) ∧ w' = w := by
  have h0 : (⟨#[]⟩ : ByteArray).size = 0 := rfl
  go_enter Tryz.func56, Tryz.ntmps56
  go_wp2_with fail
  go_ret3
  exact ⟨rfl, rfl⟩

/-- What a step of the range tells of the byte at hand. -/
theorem next_fact (w : World) (k : Nat) (s : ByteArray) (pos : Nat) (hk : w.heap[k]? = some (.stringIter s pos)) (h : pos < s.size) :
    ∃ r m : Nat, (∀ ty, (Instr.next (.pointer (some ⟨k, 0, none⟩)) true ty).run Tryz.prog w = .ok (.tuple #[.bool true, .int .i64 pos, .int .i32 r]) (w.iterAt k s (pos + m))) ∧ r ≤ 2147483647 ∧ (dig (s.data.toList.getD pos 0) → 48 ≤ r ∧ r ≤ 57 ∧ m = 1) ∧ (¬ dig (s.data.toList.getD pos 0) → r < 48 ∨ 57 < r) := by
  rw [data_getD s pos h]
  by_cases ha : (s[pos]'h).toNat < 128
  · refine ⟨(s[pos]'h).toNat, 1, fun ty => Lib.run_next_ascii_at w k s pos ty hk h ha, by omega, fun hd => ⟨hd.1, hd.2, rfl⟩, fun hd => ?_⟩
    unfold dig at hd
    omega
  · have hh := decode_high s pos h (by omega)
    refine ⟨(Utf8.decode s pos).1, (Utf8.decode s pos).2, fun ty => Lib.run_next_any_at w k s pos ty hk h, decode_le s pos, fun hd => ?_, fun _ => by omega⟩
    unfold dig at hd
    omega

set_option maxHeartbeats 4000000 in
theorem read_c (w : World) (s : ByteArray) (h0 : 0 < s.size) (hs : s.size ≤ 65536) :
    Calls Tryz.prog 56 #[.string s] w fun e w' => (∃ i : Nat, i < s.size ∧ bad s.data.toList i ∧ (∀ j, j < i → ¬ bad s.data.toList j) ∧ e = .returned (.tuple #[.slice none 0 0, .int .i64 i, .int .i64 4]) ∧ Below w.heap.size w w') ∨
      ((∀ j, j < s.size → ¬ bad s.data.toList j) ∧ ∃ r cr, e = .returned (.tuple #[.slice r (digs (decV s.data.toList)).length cr, .int .i64 0, .int .i64 0]) ∧ Ans w w' r cr (decV s.data.toList)) := by
  have hne : s.toList.isEmpty = false := by
    rw [ByteArray.toList_eq]
    cases hl : s.data.toList with
    | nil =>
      have : s.data.toList.length = s.size := by simp
      rw [hl] at this
      simp at this
      omega
    | cons a r => rfl
  go_enter Tryz.func56, Tryz.ntmps56
  go_wp2_with fail
  obtain ⟨k, hk⟩ : ∃ k, k = w.heap.size := ⟨_, rfl⟩
  obtain ⟨W1, hW1⟩ : ∃ W, W = w.iter s 0 := ⟨_, rfl⟩
  have hI1 : Hid (W1.heap[k]? = some (.stringIter s 0)) := by rw [hW1, hk]; exact World.iter_heap w s 0
  have hB1 : Hid (Below w.heap.size w W1) := by rw [hW1]; exact (Below.refl _ _).alloc (Nat.le_refl _) _
  rw [← hW1, ← hk]
  have HK := hid (show w.heap.size ≤ k by omega)
  clear hW1 hk
  go_loopg [5] s.size (fun gk s5 wr => ∃ pos : Nat, s.size - pos ≤ gk ∧ pos ≤ s.size ∧ Hid (wr.heap[k]? = some (.stringIter s pos) ∧ Below w.heap.size w wr ∧ ∀ j, j < pos → ¬ bad s.data.toList j))
  case atStart => exact ⟨0, Nat.sub_le _ _, Nat.zero_le _, hI1.out, hB1.out, fun j hj => by omega⟩
  case round =>
    obtain ⟨pos, hgk, hpos, HR⟩ := hrel
    by_cases hlt : pos < s.size
    · obtain ⟨r, m, hnx, hr, hyes, hno⟩ := next_fact wr k s pos HR.out.1 hlt
      have HF := hid (And.intro HR.out (Lib.below_iterAt HR.out.2.1 HK.out s (pos + m)))
      obtain ⟨b0, hb0⟩ : ∃ b, (s[0]'h0).toNat = b := ⟨_, rfl⟩
      have HB0 := hid (show s.data.toList.getD 0 0 = 48 ↔ b0 = 48 from by
        rw [data_getD s 0 h0, ← hb0]
        constructor
        · intro e; rw [e]; rfl
        · intro e; exact UInt8.toNat_inj.1 e)
      by_cases hdg : dig (s.data.toList.getD pos 0)
      · obtain ⟨r1, r2, rfl⟩ := hyes hdg
        have HDG := hid hdg
        clear hyes hno hdg
        by_cases hp0 : pos = 0
        · subst hp0
          go_wp2_with fail
          go_roundg (s.size - 1)
          case measure => omega
          case rel => exact ⟨1, Nat.le_refl _, by omega, Lib.iterAt_heap wr k s 0 _ HF.out.1.1, HF.out.2, fun j hj => by
            obtain rfl : j = 0 := by omega
            rintro (h | ⟨h, _⟩)
            · exact h HDG.out
            · omega⟩
        · have hp1 : 0 < pos := by omega
          clear hp0
          by_cases hz : b0 = 48
          · have hbz : (s[0]'h0).toNat = 48 := by omega
            have HBAD : Hid (bad s.data.toList pos) := Or.inr ⟨hp1, HB0.out.2 hz⟩
            go_wp2_with fail
            go_ret3
            exact Or.inl ⟨pos, hlt, HBAD.out, HF.out.1.2.2, rfl, HF.out.2⟩
          · have hbz : (((s[0]'h0).toNat : Int) == 48) = false := beq_eq_false_iff_ne.2 (by omega)
            have HGD : Hid (¬ bad s.data.toList pos) := by
              rintro (h | ⟨_, h⟩)
              · exact h HDG.out
              · exact hz (HB0.out.1 h)
            clear hb0
            go_wp2_with fail
            go_roundg (s.size - (pos + 1))
            case measure => omega
            case rel => exact ⟨pos + 1, Nat.le_refl _, by omega, Lib.iterAt_heap wr k s pos _ HF.out.1.1, HF.out.2, fun j hj => by
              rcases Nat.lt_or_ge j pos with h | h
              · exact HF.out.1.2.2 j h
              · obtain rfl : j = pos := by omega
                exact HGD.out⟩
      · have HBAD : Hid (bad s.data.toList pos) := Or.inl hdg
        rcases hno hdg with h | h
        · clear hyes hno hdg hb0
          go_wp2_with fail
          go_ret3
          exact Or.inl ⟨pos, hlt, HBAD.out, HF.out.1.2.2, rfl, HF.out.2⟩
        · have h48 : ¬ (r : Int) < 48 := by omega
          clear hyes hno hdg hb0
          go_wp2_with fail
          go_ret3
          exact Or.inl ⟨pos, hlt, HBAD.out, HF.out.1.2.2, rfl, HF.out.2⟩
    · have hps : pos = s.size := by omega
      have hnx : ∀ ty, (Instr.next (.pointer (some ⟨k, 0, none⟩)) true ty).run Tryz.prog wr = .ok (.tuple #[.bool false]) wr := fun ty => Lib.run_next_end_at wr k s pos ty HR.out.1 hlt
      have HG : Hid (∀ j, j < s.size → ¬ bad s.data.toList j) := by
        have := HR.out.2.2
        rw [hps] at this
        exact this
      have HB := hid HR.out.2.1
      have OD := hid (ofDigits_c wr s hs (fun i hi => by
        apply Classical.byContradiction
        intro hc
        exact HG.out i hi (Or.inl hc)))
      clear hps HR
      go_wp2_with fail
      refine OD.out.mono ?_
      rintro e W2 ⟨r, cr, rfl, A2⟩
      have HA := hid (A2.since HB.out)
      clear A2
      go_wp2_with fail
      go_ret3
      exact Or.inr ⟨HG.out, r, cr, rfl, HA.out⟩
end Go.Proofs.YtaplbadcpbollaaGreatDoor
