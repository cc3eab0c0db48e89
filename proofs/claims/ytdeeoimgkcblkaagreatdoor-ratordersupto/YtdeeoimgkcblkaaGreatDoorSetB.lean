import Derived.Test.YtdeeoimgkcblkaaGreatDoorSetA
/-
  nat.addTo: the sum in place.
-/
namespace Go.Proofs.YtdeeoimgkcblkaaGreatDoor
open Go.RowKit Nt
set_option linter.unusedSimpArgs false
set_option linter.unusedVariables false
set_option maxRecDepth 20000

theorem addTo_end {A Z : List Nat} {V k cy : Nat} (hz1 : Z.length = k) (hk : k ≤ A.length) (h : cy = 0 ∨ k = A.length) (hz3 : val Z + 4294967296 ^ k * cy = val (A.take k) + V) :
    val (Z ++ A.drop k) + 4294967296 ^ A.length * cy = val A + V := by
  rw [val_append, hz1]
  have := val_split A k hk
  rcases h with rfl | rfl
  · omega
  · simp [val] at *; omega

set_option maxHeartbeats 1000000 in
theorem addTo_c (w : World) (g : Nat) (pre A post : List Nat) (n c : Nat) (q : Option Addr) (m d : Nat) (B : List Nat) (hn : A.length = n) (hnc : n ≤ c) (hcm : c ≤ maxLen)
    (hg : Blk w g (pre ++ A ++ post)) (hA : Ok A) (hB : Sl w q m d B) (hq : Apart q B g) (hmn : m ≤ n) :
    Calls Tryz.prog 52 #[.slice (some ⟨g, pre.length, none⟩) n c, .slice q m d] w fun e w' =>
      ∃ (Z : List Nat) (cy : Nat), Z.length = n ∧ Ok Z ∧ cy ≤ 1 ∧ val Z + 4294967296 ^ n * cy = val A + val B ∧ e = .returned (.int .u32 cy) ∧ Wr w g (pre ++ Z ++ post) w' := by
  obtain ⟨o, ho⟩ : ∃ o, pre.length = o := ⟨_, rfl⟩
  rw [ho]
  have HN := hid hn
  have HG := hid hg
  have HA := hid hA
  have HB := hid hB
  have HQ := hid hq
  have HO := hid ho
  unfold maxLen at hcm
  have hdm := hB.max
  unfold maxLen at hdm
  have hmd := hB.cap
  clear hn hg hA hB hq ho
  go_enter Tryz.func52, Tryz.ntmps52
  go_wp2
  go_loopw [5, 10] (fun cv i wr => ∃ (k cy : Nat), k ≤ m ∧ i = .int .i64 k ∧ cy ≤ 1 ∧ cv = .int .u64 cy ∧ ∃ Z : List Nat, Hid (Z.length = k ∧ Ok Z ∧ val Z + 4294967296 ^ k * cy = val (A.take k) + val (B.take k) ∧ Wr w g (pre ++ (Z ++ A.drop k) ++ post) wr)) (fun _ i _ => m - (intOf i).toNat)
  case atStart => exact ⟨0, 0, Nat.zero_le _, rfl, by omega, rfl, [], rfl, Ok.nil, rfl, by simpa using Wr.refl HG.out⟩
  case round =>
    obtain ⟨k, cy, hk, rfl, hcy, rfl, Z, HZ⟩ := hrel
    by_cases hlt : k < m
    · have hBl := HB.out.lie
      obtain ⟨b, o', rfl, hcell'⟩ := (HZ.out.2.2.2.limbs hBl HQ.out) k (by have := HB.out.len; omega)
      have hbg : b ≠ g := HQ.out b o' rfl (by intro e; have := HB.out.len; rw [e] at this; simp at this; omega)
      have hcell := (Wr.blk HG.out HZ.out.2.2.2).cell (o + k) (by have := HZ.out.1; have := HN.out; have := HO.out; simp; omega)
      have hfz := (Wr.blk HG.out HZ.out.2.2.2).frozen (o + k)
      rw [← HO.out, mid_get pre Z A post k HZ.out.1 (by rw [HN.out]; omega), HO.out] at hcell
      obtain ⟨x, hx⟩ : ∃ x, A.getD k 0 = x := ⟨_, rfl⟩
      obtain ⟨y, hy⟩ : ∃ y, B.getD k 0 = y := ⟨_, rfl⟩
      rw [hx] at hcell
      rw [hy] at hcell'
      have hxb : x < 4294967296 := by rw [← hx]; exact HA.out.getD k
      have hyb : y < 4294967296 := by rw [← hy]; exact HB.out.ok.getD k
      have HX := hid hx
      have HY := hid hy
      clear hx hy hBl
      go_wp2_with fail
      go_quiet (fail)
      go_wp2
      go_roundw
      case rel =>
        obtain ⟨hz1, hz2, hz3, hz4⟩ := HZ.out
        refine ⟨k + 1, (cy + (x + y)) / 4294967296, by omega, by go_num, by omega, by go_num, Z ++ [(cy + (x + y)) % 4294967296], by simp [hz1], hz2.snoc (by omega), ?_, ?_⟩
        · rw [val_snoc, hz1, val_take_succ A k (by rw [HN.out]; omega), val_take_succ B k (by rw [HB.out.len]; omega), Nat.pow_succ, HX.out, HY.out]
          have := carry_step (t := x + y) (z := (cy + (x + y)) % 4294967296) (cy' := (cy + (x + y)) / 4294967296) hz3 (by omega)
          rw [this, Nat.mul_add]
          omega
        · exact Wr.next' HG.out hz1 (by rw [HN.out]; omega) (hz4.drewN nq) (by rw [HO.out]) (by omega)
      case measure => simp [intOf]; omega
    · have hkm : k = m := by omega
      have HM := hid hkm
      go_wp2
      go_loopw [5, 7] (fun cv i wr => ∃ (k cy : Nat), m ≤ k ∧ k ≤ n ∧ i = .int .i64 k ∧ cy ≤ 1 ∧ cv = .int .u64 cy ∧ ∃ Z : List Nat, Hid (Z.length = k ∧ Ok Z ∧ val Z + 4294967296 ^ k * cy = val (A.take k) + val B ∧ Wr w g (pre ++ (Z ++ A.drop k) ++ post) wr)) (fun _ i _ => n - (intOf i).toNat)
      case atStart =>
        obtain ⟨hz1, hz2, hz3, hz4⟩ := HZ.out
        refine ⟨m, cy, Nat.le_refl _, hmn, rfl, hcy, rfl, Z, ?_, hz2, ?_, ?_⟩
        · rw [hz1, HM.out]
        · rw [HM.out, List.take_of_length_le (l := B) (by rw [HB.out.len]; omega)] at hz3; exact hz3
        · rw [HM.out] at hz4; exact hz4
      case round =>
        clear HZ
        obtain ⟨k, cy, hk1, hk2, rfl, hcy, rfl, Z, HZ⟩ := hrel
        by_cases hc0 : cy = 0
        · subst hc0
          go_wp2
          go_ret
          obtain ⟨hz1, hz2, hz3, hz4⟩ := HZ.out
          refine ⟨Z ++ A.drop k, 0, by simp [hz1, HN.out]; omega, hz2.append (HA.out.drop k), by omega, ?_, rfl, hz4⟩
          have := addTo_end hz1 (by rw [HN.out]; exact hk2) (Or.inl rfl) hz3
          rwa [HN.out] at this
        · have hc1 : cy = 1 := by omega
          subst hc1
          by_cases hlt : k < n
          · have hcell := (Wr.blk HG.out HZ.out.2.2.2).cell (o + k) (by have := HZ.out.1; have := HN.out; have := HO.out; simp; omega)
            have hfz := (Wr.blk HG.out HZ.out.2.2.2).frozen (o + k)
            rw [← HO.out, mid_get pre Z A post k HZ.out.1 (by rw [HN.out]; omega), HO.out] at hcell
            obtain ⟨x, hx⟩ : ∃ x, A.getD k 0 = x := ⟨_, rfl⟩
            rw [hx] at hcell
            have hxb : x < 4294967296 := by rw [← hx]; exact HA.out.getD k
            have HX := hid hx
            clear hx
            go_wp2
            go_roundw
            case rel =>
              obtain ⟨hz1, hz2, hz3, hz4⟩ := HZ.out
              refine ⟨k + 1, (1 + x) / 4294967296, by omega, by omega, by go_num, by omega, by go_num, Z ++ [(1 + x) % 4294967296], by simp [hz1], hz2.snoc (by omega), ?_, ?_⟩
              · rw [val_snoc, hz1, val_take_succ A k (by rw [HN.out]; omega), Nat.pow_succ, HX.out]
                have := carry_step (t := x) (z := (1 + x) % 4294967296) (cy' := (1 + x) / 4294967296) hz3 (by omega)
                rw [this]
                omega
              · exact Wr.next' HG.out hz1 (by rw [HN.out]; omega) hz4 (by rw [HO.out]) (by omega)
            case measure => simp [intOf]; omega
          · go_wp2
            go_ret
            obtain ⟨hz1, hz2, hz3, hz4⟩ := HZ.out
            refine ⟨Z ++ A.drop k, 1, by simp [hz1, HN.out]; omega, hz2.append (HA.out.drop k), by omega, ?_, rfl, hz4⟩
            have := addTo_end hz1 (by rw [HN.out]; exact hk2) (Or.inr (by rw [HN.out]; omega)) hz3
            rwa [HN.out] at this
end Go.Proofs.YtdeeoimgkcblkaaGreatDoor

/-
  nat.Add.
-/
namespace Go.Proofs.YtdeeoimgkcblkaaGreatDoor
open Go.RowKit Nt
set_option linter.unusedSimpArgs false
set_option linter.unusedVariables false
set_option maxRecDepth 20000

theorem addTo_0 (w : World) (g : Nat) (A : List Nat) (n c : Nat) (q : Option Addr) (m d : Nat) (B : List Nat) (hn : A.length = n) (hnc : n ≤ c) (hcm : c ≤ maxLen)
    (hg : Blk w g A) (hA : Ok A) (hB : Sl w q m d B) (hq : Apart q B g) (hmn : m ≤ n) :
    Calls Tryz.prog 52 #[.slice (some ⟨g, 0, none⟩) n c, .slice q m d] w fun e w' =>
      ∃ (Z : List Nat) (cy : Nat), Z.length = n ∧ Ok Z ∧ cy ≤ 1 ∧ val Z + 4294967296 ^ n * cy = val A + val B ∧ e = .returned (.int .u32 cy) ∧ Wr w g Z w' := by
  refine (addTo_c w g [] A [] n c q m d B hn hnc hcm (by simpa using hg) hA hB hq hmn).mono ?_
  rintro e w' ⟨Z, cy, h1, h2, h3, h4, h5, h6⟩
  exact ⟨Z, cy, h1, h2, h3, h4, h5, by simpa using h6⟩

theorem add_sum_aux (P VZ VA VB cy : Nat) (h : VZ + P * 4294967296 * cy = VA + VB) (a1 : VA < P) (a2 : VB < P) : VZ = VA + VB := by
  have hc : cy = 0 := by
    apply Classical.byContradiction
    intro hne
    have h2 : P * 2 ≤ P * (4294967296 * cy) := Nat.mul_le_mul_left _ (by omega)
    rw [← Nat.mul_assoc] at h2
    omega
  rw [hc, Nat.mul_zero] at h
  exact h

/-- No carry is left, as there is a limb more. -/
theorem add_sum {A B : List Nat} {k cy : Nat} {Z : List Nat} (hA : Ok A) (hB : Ok B) (hAk : A.length = k) (hBk : B.length ≤ k) (h : val Z + 4294967296 ^ (k + 1) * cy = val (A ++ [0]) + val B) : val Z = val A + val B := by
  have e : val (A ++ [0]) = val A := by rw [val_snoc, Nat.mul_zero, Nat.add_zero]
  rw [e, Nat.pow_succ] at h
  have a1 := val_lt hA
  rw [hAk] at a1
  exact add_sum_aux _ _ _ _ _ h a1 (Nat.lt_of_lt_of_le (val_lt hB) (Nat.pow_le_pow_right (Nat.zero_lt_succ _) hBk))

/-- Add's end: the row that was made, written once by addTo. -/
theorem add_end {w w' w'' : World} {A B Z : List Nat} {k cy n : Nat} (hA : Ok A) (hB : Ok B) (hAk : A.length = k) (hBk : B.length ≤ k) (hz : Ok Z) (hl : Z.length = k + 1) (hk : k ≤ 70368744177663) (hn : val A + val B = n)
    (h : val Z + 4294967296 ^ (k + 1) * cy = val (A ++ [0]) + val B) (hw : w' = w.alloc (.cells (U (A ++ [0])).toArray 54)) (hwr : Wr w' w.heap.size Z w'') : Res w w'' (some ⟨w.heap.size, 0, none⟩) (k + 1) n := by
  have hb : Below w.heap.size w w' := by rw [hw]; exact (Below.refl _ _).alloc (Nat.le_refl _) _
  have hblk : Blk w' w.heap.size (A ++ [0]) := by rw [hw]; exact heap_alloc_last _ _
  exact Res.row (hwr.below hb (Nat.le_refl _)) (Wr.blk hblk hwr) hz ((add_sum hA hB hAk hBk h).trans hn) (Nat.le_refl _) hl (by unfold maxLen; omega)

set_option maxHeartbeats 1000000 in
theorem add_c (w : World) (p q : Option Addr) (n c m d : Nat) (xs ys : List Nat) (h : Sl w p n c xs) (h' : Sl w q m d ys) (hs : n ≤ 70368744177663) (hs' : m ≤ 70368744177663) :
    Calls Tryz.prog 39 #[.slice p n c, .slice q m d] w fun e w' => ∃ r cr, e = .returned (.slice r (digs (val xs + val ys)).length cr) ∧ Res w w' r cr (val xs + val ys) := by
  obtain ⟨la, hla⟩ : ∃ la, (digs (val xs)).length = la := ⟨_, rfl⟩
  obtain ⟨lb, hlb⟩ : ∃ lb, (digs (val ys)).length = lb := ⟨_, rfl⟩
  have hlan : la ≤ n := by rw [← hla]; exact h.dl
  have hlbm : lb ≤ m := by rw [← hlb]; exact h'.dl
  have T1 := hid (trim_s w p n c la xs hla h)
  have T2 := hid (trim_s w q m d lb ys hlb h')
  have HX := hid h.digs
  have HY := hid h'.digs
  rw [hla] at HX
  rw [hlb] at HY
  have hc := h.cap
  have hm := h.max
  have hc' := h'.cap
  have hm' := h'.max
  unfold maxLen at hm hm'
  clear h h'
  by_cases hlt : la < lb
  · have M : ∀ W : World, (Instr.makeSlice 22 (.int .i64 ((lb : Int) + 1)) (.int .i64 ((lb : Int) + 1))).run Tryz.prog W = .ok (.slice (some ⟨W.heap.size, 0, none⟩) (lb + 1) (lb + 1)) (W.alloc (.cells (U (List.replicate (lb + 1) 0)).toArray 54)) := by
      have := make_u32 (lb + 1) (by omega)
      simpa using this
    have hcp : ∀ ty, (Builtin.copy_ #[22, 22] ty #[.slice (some ⟨w.heap.size, 0, none⟩) (lb + 1) (lb + 1), .slice q lb d]).run Tryz.prog (w.alloc (.cells (U (List.replicate (lb + 1) 0)).toArray 54)) = .ok (goInt lb) (w.alloc (.cells (U (digs (val ys) ++ [0])).toArray 54)) := by
      intro ty
      rw [copy_u32 _ ty _ lb (lb + 1) d q (digs (val ys)) (List.replicate (lb + 1) 0) HY.out.len (by simp) (by omega) (HY.out.lie.below ((Below.refl _ _).alloc (Nat.le_refl _) _)) (heap_alloc_last _ _) HY.out.nil]
      rw [World.setRow_alloc_new]
      simp
    go_enter Tryz.func39, Tryz.ntmps39
    go_wp2_with fail
    refine T1.out.mono ?_
    rintro e w' ⟨rfl, rfl⟩
    go_wp2_with fail
    refine T2.out.mono ?_
    rintro e w' ⟨rfl, rfl⟩
    have hal : Below w'.heap.size w' (w'.alloc (.cells (U (digs (val ys) ++ [0])).toArray 54)) := (Below.refl _ _).alloc (Nat.le_refl _) _
    have A1 := hid (addTo_0 (w'.alloc (.cells (U (digs (val ys) ++ [0])).toArray 54)) w'.heap.size (digs (val ys) ++ [0]) (lb + 1) (lb + 1) p la c (digs (val xs)) (by simp [HY.out.len]) (Nat.le_refl _) (by unfold maxLen; omega)
      (heap_alloc_last _ _) ((ok_digs _).snoc (by omega)) (HX.out.below hal) (HX.out.apart (Nat.le_refl _)) (by omega))
    clear hal
    go_wp2_with fail
    refine A1.out.mono ?_
    rintro e w'' ⟨Z, cy, z1, z2, z3, z4, rfl, z5⟩
    have R := hid (add_end (n := val xs + val ys) (ok_digs (val ys)) (ok_digs (val xs)) HY.out.len (by rw [HX.out.len]; omega) z2 z1 (by omega) (by rw [val_digs, val_digs, Nat.add_comm]) z4 rfl z5)
    have T3 := hid (trim_s w'' (some ⟨w'.heap.size, 0, none⟩) (lb + 1) (lb + 1) (digs (val Z)).length Z rfl ⟨z1, Nat.le_refl _, by unfold maxLen; omega, (fun e => by cases e), z2, (Wr.blk (heap_alloc_last _ _) z5).limbs⟩)
    have hv : val Z = val xs + val ys := by
      have := add_sum (ok_digs (val ys)) (ok_digs (val xs)) HY.out.len (by rw [HX.out.len]; omega) z4
      rwa [val_digs, val_digs, Nat.add_comm] at this
    rw [hv] at T3
    clear hv z1 z2 z3 z4 z5 A1 hcp M
    go_wp2_with fail
    refine T3.out.mono ?_
    rintro e w3 ⟨rfl, rfl⟩
    go_wp2
    go_ret
    exact ⟨_, _, rfl, R.out⟩
  · have M : ∀ W : World, (Instr.makeSlice 22 (.int .i64 ((la : Int) + 1)) (.int .i64 ((la : Int) + 1))).run Tryz.prog W = .ok (.slice (some ⟨W.heap.size, 0, none⟩) (la + 1) (la + 1)) (W.alloc (.cells (U (List.replicate (la + 1) 0)).toArray 54)) := by
      have := make_u32 (la + 1) (by omega)
      simpa using this
    have hcp : ∀ ty, (Builtin.copy_ #[22, 22] ty #[.slice (some ⟨w.heap.size, 0, none⟩) (la + 1) (la + 1), .slice p la c]).run Tryz.prog (w.alloc (.cells (U (List.replicate (la + 1) 0)).toArray 54)) = .ok (goInt la) (w.alloc (.cells (U (digs (val xs) ++ [0])).toArray 54)) := by
      intro ty
      rw [copy_u32 _ ty _ la (la + 1) c p (digs (val xs)) (List.replicate (la + 1) 0) HX.out.len (by simp) (by omega) (HX.out.lie.below ((Below.refl _ _).alloc (Nat.le_refl _) _)) (heap_alloc_last _ _) HX.out.nil]
      rw [World.setRow_alloc_new]
      simp
    go_enter Tryz.func39, Tryz.ntmps39
    go_wp2_with fail
    refine T1.out.mono ?_
    rintro e w' ⟨rfl, rfl⟩
    go_wp2_with fail
    refine T2.out.mono ?_
    rintro e w' ⟨rfl, rfl⟩
    have hal : Below w'.heap.size w' (w'.alloc (.cells (U (digs (val xs) ++ [0])).toArray 54)) := (Below.refl _ _).alloc (Nat.le_refl _) _
    have A1 := hid (addTo_0 (w'.alloc (.cells (U (digs (val xs) ++ [0])).toArray 54)) w'.heap.size (digs (val xs) ++ [0]) (la + 1) (la + 1) q lb d (digs (val ys)) (by simp [HX.out.len]) (Nat.le_refl _) (by unfold maxLen; omega)
      (heap_alloc_last _ _) ((ok_digs _).snoc (by omega)) (HY.out.below hal) (HY.out.apart (Nat.le_refl _)) (by omega))
    clear hal
    go_wp2_with fail
    refine A1.out.mono ?_
    rintro e w'' ⟨Z, cy, z1, z2, z3, z4, rfl, z5⟩
    have R := hid (add_end (n := val xs + val ys) (ok_digs (val xs)) (ok_digs (val ys)) HX.out.len (by rw [HY.out.len]; omega) z2 z1 (by omega) (by rw [val_digs, val_digs]) z4 rfl z5)
    have T3 := hid (trim_s w'' (some ⟨w'.heap.size, 0, none⟩) (la + 1) (la + 1) (digs (val Z)).length Z rfl ⟨z1, Nat.le_refl _, by unfold maxLen; omega, (fun e => by cases e), z2, (Wr.blk (heap_alloc_last _ _) z5).limbs⟩)
    have hv : val Z = val xs + val ys := by
      have := add_sum (ok_digs (val xs)) (ok_digs (val ys)) HX.out.len (by rw [HY.out.len]; omega) z4
      rwa [val_digs, val_digs] at this
    rw [hv] at T3
    clear hv z1 z2 z3 z4 z5 A1 hcp M
    go_wp2_with fail
    refine T3.out.mono ?_
    rintro e w3 ⟨rfl, rfl⟩
    go_wp2
    go_ret
    exact ⟨_, _, rfl, R.out⟩
end Go.Proofs.YtdeeoimgkcblkaaGreatDoor

/-
  nat.subFrom: the difference in place.
-/
namespace Go.Proofs.YtdeeoimgkcblkaaGreatDoor
open Go.RowKit Nt
set_option linter.unusedSimpArgs false
set_option linter.unusedVariables false
set_option maxRecDepth 20000

/-- A difference of two limbs with a borrow, in 64 bits. -/
theorem sub_limb (x y cy : Nat) (hx : x < 4294967296) (hy : y < 4294967296) (hc : cy ≤ 1) :
    ∃ z cy' : Nat, z < 4294967296 ∧ cy' ≤ 1 ∧ IntKind.u64.wrap (IntKind.u64.wrap ((x : Int) - y) - cy) % 4294967296 = z ∧ IntKind.u64.wrap (IntKind.u64.wrap ((x : Int) - y) - cy) / 9223372036854775808 = cy' ∧ z + (y + cy) = x + 4294967296 * cy' := by
  simp only [IntKind.wrap_u64]
  by_cases h : x < y + cy
  · exact ⟨x + 4294967296 - y - cy, 1, by omega, by omega, by omega, by omega, by omega⟩
  · exact ⟨x - y - cy, 0, by omega, by omega, by omega, by omega, by omega⟩
theorem sub_limb1 (x cy : Nat) (hx : x < 4294967296) (hc : cy ≤ 1) :
    ∃ z cy' : Nat, z < 4294967296 ∧ cy' ≤ 1 ∧ IntKind.u64.wrap ((x : Int) - cy) % 4294967296 = z ∧ IntKind.u64.wrap ((x : Int) - cy) / 9223372036854775808 = cy' ∧ z + (0 + cy) = x + 4294967296 * cy' := by
  simp only [IntKind.wrap_u64]
  by_cases h : x < cy
  · exact ⟨x + 4294967296 - cy, 1, by omega, by omega, by omega, by omega, by omega⟩
  · exact ⟨x - cy, 0, by omega, by omega, by omega, by omega, by omega⟩

theorem sub_end {A Z : List Nat} {V k cy : Nat} (hA : Ok A) (hZ : Ok Z) (hz1 : Z.length = k) (hk : k ≤ A.length) (hV : V ≤ val A) (h : cy = 0 ∨ k = A.length) (hz3 : val Z + V = val (A.take k) + 4294967296 ^ k * cy) :
    val (Z ++ A.drop k) + V = val A := by
  have hc : cy = 0 := by
    rcases h with h | h
    · exact h
    apply Classical.byContradiction
    intro hne
    have h1 := val_lt hZ
    rw [hz1] at h1
    have h2 : 4294967296 ^ k * 1 ≤ 4294967296 ^ k * cy := Nat.mul_le_mul_left _ (by omega)
    rw [h, List.take_length, ← h] at hz3
    have h3 : A.length = k := h.symm
    omega
  rw [hc, Nat.mul_zero] at hz3
  rw [val_append, hz1]
  have := val_split A k hk
  omega

set_option maxHeartbeats 1000000 in
theorem subFrom_c (w : World) (g : Nat) (A : List Nat) (n c : Nat) (q : Option Addr) (m d : Nat) (B : List Nat) (hn : A.length = n) (hnc : n ≤ c) (hcm : c ≤ maxLen) (post : List Nat)
    (hg : Blk w g (A ++ post)) (hA : Ok A) (hB : Sl w q m d B) (hq : Apart q B g) (hmn : m ≤ n) (hle : val B ≤ val A) :
    Calls Tryz.prog 69 #[.slice (some ⟨g, 0, none⟩) n c, .slice q m d] w fun e w' =>
      ∃ (Z : List Nat), Z.length = n ∧ Ok Z ∧ val Z + val B = val A ∧ e = .returned (.tuple #[]) ∧ Wr w g (Z ++ post) w' := by
  have HN := hid hn
  have HG := hid hg
  have HA := hid hA
  have HB := hid hB
  have HQ := hid hq
  have HL := hid hle
  unfold maxLen at hcm
  have hdm := hB.max
  unfold maxLen at hdm
  have hmd := hB.cap
  clear hn hg hA hB hq hle
  go_enter Tryz.func69, Tryz.ntmps69
  go_wp2
  go_loopw [4, 11] (fun cv i wr => ∃ (k cy : Nat), k ≤ m ∧ i = .int .i64 k ∧ cy ≤ 1 ∧ cv = .int .u64 cy ∧ ∃ Z : List Nat, Hid (Z.length = k ∧ Ok Z ∧ val Z + val (B.take k) = val (A.take k) + 4294967296 ^ k * cy ∧ Wr w g ([] ++ (Z ++ A.drop k) ++ post) wr)) (fun _ i _ => m - (intOf i).toNat)
  case atStart => exact ⟨0, 0, Nat.zero_le _, rfl, by omega, rfl, [], rfl, Ok.nil, rfl, by simpa using Wr.refl HG.out⟩
  case round =>
    obtain ⟨k, cy, hk, rfl, hcy, rfl, Z, HZ⟩ := hrel
    by_cases hlt : k < m
    · have hBl := HB.out.lie
      obtain ⟨b, o', rfl, hcell'⟩ := (HZ.out.2.2.2.limbs hBl HQ.out) k (by have := HB.out.len; omega)
      have hcell := (Wr.blk HG.out HZ.out.2.2.2).cell k (by have := HZ.out.1; have := HN.out; simp; omega)
      have hfz := (Wr.blk HG.out HZ.out.2.2.2).frozen k
      have hmg := mid_get [] Z A post k HZ.out.1 (by rw [HN.out]; omega)
      rw [List.length_nil, Nat.zero_add] at hmg
      rw [hmg] at hcell
      clear hmg
      obtain ⟨x, hx⟩ : ∃ x, A.getD k 0 = x := ⟨_, rfl⟩
      obtain ⟨y, hy⟩ : ∃ y, B.getD k 0 = y := ⟨_, rfl⟩
      rw [hx] at hcell
      rw [hy] at hcell'
      have hxb : x < 4294967296 := by rw [← hx]; exact HA.out.getD k
      have hyb : y < 4294967296 := by rw [← hy]; exact HB.out.ok.getD k
      have HX := hid hx
      have HY := hid hy
      clear hx hy hBl
      go_wp2_with fail
      go_quiet (fail)
      go_wp2
      go_roundw
      case rel =>
        obtain ⟨hz1, hz2, hz3, hz4⟩ := HZ.out
        obtain ⟨z, cy', b1, b2, e1, e2, e3⟩ := sub_limb x y cy hxb hyb hcy
        refine ⟨k + 1, cy', by omega, by go_num, b2, by rw [e2], Z ++ [z], by simp [hz1], hz2.snoc b1, ?_, ?_⟩
        · rw [val_snoc, hz1, val_take_succ A k (by rw [HN.out]; omega), val_take_succ B k (by rw [HB.out.len]; omega), Nat.pow_succ, HX.out, HY.out]
          exact borrow_step hz3 e3
        · exact Wr.next' HG.out hz1 (by rw [HN.out]; omega) (hz4.drewN nq) (by simp) e1
      case measure => simp [intOf]; omega
    · have hkm : k = m := by omega
      have HM := hid hkm
      go_wp2
      go_loopw [4, 7] (fun cv i wr => ∃ (k cy : Nat), m ≤ k ∧ k ≤ n ∧ i = .int .i64 k ∧ cy ≤ 1 ∧ cv = .int .u64 cy ∧ ∃ Z : List Nat, Hid (Z.length = k ∧ Ok Z ∧ val Z + val B = val (A.take k) + 4294967296 ^ k * cy ∧ Wr w g ([] ++ (Z ++ A.drop k) ++ post) wr)) (fun _ i _ => n - (intOf i).toNat)
      case atStart =>
        obtain ⟨hz1, hz2, hz3, hz4⟩ := HZ.out
        refine ⟨m, cy, Nat.le_refl _, hmn, rfl, hcy, rfl, Z, ?_, hz2, ?_, ?_⟩
        · rw [hz1, HM.out]
        · rw [HM.out, List.take_of_length_le (l := B) (by rw [HB.out.len]; omega)] at hz3; exact hz3
        · rw [HM.out] at hz4; exact hz4
      case round =>
        clear HZ
        obtain ⟨k, cy, hk1, hk2, rfl, hcy, rfl, Z, HZ⟩ := hrel
        by_cases hc0 : cy = 0
        · subst hc0
          go_wp2
          go_end0
          obtain ⟨hz1, hz2, hz3, hz4⟩ := HZ.out
          exact ⟨Z ++ A.drop k, by simp [hz1, HN.out]; omega, hz2.append (HA.out.drop k), sub_end HA.out hz2 hz1 (by rw [HN.out]; exact hk2) HL.out (Or.inl rfl) hz3, rfl, hz4⟩
        · have hc1 : cy = 1 := by omega
          subst hc1
          by_cases hlt : k < n
          · have hcell := (Wr.blk HG.out HZ.out.2.2.2).cell k (by have := HZ.out.1; have := HN.out; simp; omega)
            have hfz := (Wr.blk HG.out HZ.out.2.2.2).frozen k
            have hmg := mid_get [] Z A post k HZ.out.1 (by rw [HN.out]; omega)
            rw [List.length_nil, Nat.zero_add] at hmg
            rw [hmg] at hcell
            clear hmg
            obtain ⟨x, hx⟩ : ∃ x, A.getD k 0 = x := ⟨_, rfl⟩
            rw [hx] at hcell
            have hxb : x < 4294967296 := by rw [← hx]; exact HA.out.getD k
            have HX := hid hx
            clear hx
            go_wp2
            go_roundw
            case rel =>
              obtain ⟨hz1, hz2, hz3, hz4⟩ := HZ.out
              obtain ⟨z, cy', b1, b2, e1, e2, e3⟩ := sub_limb1 x 1 hxb hcy
              refine ⟨k + 1, cy', by omega, by omega, by go_num, b2, by rw [← e2]; rfl, Z ++ [z], by simp [hz1], hz2.snoc b1, ?_, ?_⟩
              · rw [val_snoc, hz1, val_take_succ A k (by rw [HN.out]; omega), Nat.pow_succ, HX.out]
                have := borrow_step hz3 e3
                rw [Nat.mul_zero, Nat.add_zero] at this
                exact this
              · exact Wr.next' HG.out hz1 (by rw [HN.out]; omega) hz4 (by simp) e1
            case measure => simp [intOf]; omega
          · go_wp2
            go_end0
            obtain ⟨hz1, hz2, hz3, hz4⟩ := HZ.out
            exact ⟨Z ++ A.drop k, by simp [hz1, HN.out]; omega, hz2.append (HA.out.drop k), sub_end HA.out hz2 hz1 (by rw [HN.out]; exact hk2) HL.out (Or.inr (by rw [HN.out]; omega)) hz3, rfl, hz4⟩
end Go.Proofs.YtdeeoimgkcblkaaGreatDoor

/-
  nat.Sub.
-/
namespace Go.Proofs.YtdeeoimgkcblkaaGreatDoor
open Go.RowKit Nt
set_option linter.unusedSimpArgs false
set_option linter.unusedVariables false
set_option maxRecDepth 20000

set_option maxHeartbeats 1000000 in
theorem sub_c (w : World) (p q : Option Addr) (n c m d : Nat) (xs ys : List Nat) (h : Sl w p n c xs) (h' : Sl w q m d ys) (hs : n ≤ 70368744177664) (hle : val ys ≤ val xs) :
    Calls Tryz.prog 51 #[.slice p n c, .slice q m d] w fun e w' => ∃ r cr, e = .returned (.tuple #[.slice r (digs (val xs - val ys)).length cr, .int .i64 0]) ∧ Res w w' r cr (val xs - val ys) := by
  have C := hid (cmp_s w p q n c m d xs ys h h')
  have hcmp : cmpN (val xs) (val ys) = 0 ∨ cmpN (val xs) (val ys) = 1 := by
    unfold cmpN
    by_cases e : val xs = val ys
    · simp [e]
    · have h1 : ¬ val xs < val ys := by omega
      simp [h1, e]
  obtain ⟨cv, hcv⟩ : ∃ cv, cmpN (val xs) (val ys) = cv := ⟨_, rfl⟩
  rw [hcv] at C hcmp
  have hcv0 : 0 ≤ cv := by omega
  obtain ⟨la, hla⟩ : ∃ la, (digs (val xs)).length = la := ⟨_, rfl⟩
  obtain ⟨lb, hlb⟩ : ∃ lb, (digs (val ys)).length = lb := ⟨_, rfl⟩
  have hll : lb ≤ la := by rw [← hla, ← hlb]; exact digs_length_mono hle
  have hlan : la ≤ n := by rw [← hla]; exact h.dl
  have HH := hid h
  have HH' := hid h'
  have HLA := hid hla
  have HLB := hid hlb
  have HLE := hid hle
  have hc := h.cap
  have hm := h.max
  have hc' := h'.cap
  have hm' := h'.max
  unfold maxLen at hm hm'
  clear h h' hla hlb hcv hcmp hle
  go_enter Tryz.func51, Tryz.ntmps51
  go_wp2_with fail
  refine C.out.mono ?_
  rintro e w' ⟨rfl, nq, rfl⟩
  have hb1 : Below w.heap.size w (w.drewN nq) := below_drewN' (Below.refl _ _) nq
  have N1 := hid (norm_c (w.drewN nq) p n c xs (HH.out.below hb1) hs)
  rw [HLA.out] at N1
  generalize hW : w.drewN nq = W at *
  go_wp2_with fail
  refine N1.out.mono ?_
  rintro e w' ⟨rfl, rfl⟩
  have hal : Below W.heap.size W (W.alloc (.cells (U (digs (val xs))).toArray 54)) := (Below.refl _ _).alloc (Nat.le_refl _) _
  have HY1 := hid ((HH'.out.below hb1).below hal)
  have T := hid (trim_s (W.alloc (.cells (U (digs (val xs))).toArray 54)) q m d lb ys HLB.out HY1.out)
  have S1 := hid (subFrom_c (W.alloc (.cells (U (digs (val xs))).toArray 54)) W.heap.size (digs (val xs)) la la q lb d (digs (val ys)) HLA.out (Nat.le_refl _) (by unfold maxLen; omega) []
    (by rw [List.append_nil]; exact heap_alloc_last _ _) (ok_digs _) (by have := HY1.out.digs; rw [HLB.out] at this; exact this) ((HH'.out.below hb1).digs.apart (Nat.le_refl _)) hll (by rw [val_digs, val_digs]; exact HLE.out))
  have HAL := hid hal
  have HB1 := hid hb1
  have HWW := hid hW
  clear hal hb1 hW
  go_wp2_with fail
  refine T.out.mono ?_
  rintro e w' ⟨rfl, rfl⟩
  go_wp2_with fail
  refine S1.out.mono ?_
  rintro e w2 ⟨Z, z1, z2, z3, rfl, z4⟩
  rw [val_digs, val_digs] at z3
  rw [List.append_nil] at z4
  have hZ : val Z = val xs - val ys := by omega
  have R := hid (Res.row (w := W) (w' := w2) (z4.below HAL.out (Nat.le_refl _)) (Wr.blk (heap_alloc_last _ _) z4) z2 hZ (Nat.le_refl _) z1 (by unfold maxLen; omega))
  have T3 := hid (trim_s w2 (some ⟨W.heap.size, 0, none⟩) la la (digs (val xs - val ys)).length Z (by rw [hZ]) ⟨z1, Nat.le_refl _, by unfold maxLen; omega, (fun e => by cases e), z2, (Wr.blk (heap_alloc_last _ _) z4).limbs⟩)
  clear z1 z2 z3 z4 hZ
  go_wp2_with fail
  refine T3.out.mono ?_
  rintro e w3 ⟨rfl, rfl⟩
  go_wp2
  go_ret2
  refine ⟨_, _, rfl, ?_⟩
  exact R.out.since HB1.out
end Go.Proofs.YtdeeoimgkcblkaaGreatDoor

/-
  nat.addTimes: a row, with a multiple of another added in place.
-/
namespace Go.Proofs.YtdeeoimgkcblkaaGreatDoor
open Go.RowKit Nt
set_option linter.unusedSimpArgs false
set_option linter.unusedVariables false
set_option maxRecDepth 20000

set_option maxHeartbeats 1000000 in
theorem addTimes_c (w : World) (g : Nat) (pre A post : List Nat) (n c : Nat) (q : Option Addr) (m d : Nat) (B : List Nat) (f : Nat) (hn : A.length = n) (hnc : n ≤ c) (hcm : c ≤ maxLen)
    (hg : Blk w g (pre ++ A ++ post)) (hA : Ok A) (hB : Sl w q m d B) (hq : Apart q B g) (hmn : m = n) (hf : f < 4294967296) :
    Calls Tryz.prog 37 #[.slice (some ⟨g, pre.length, none⟩) n c, .slice q m d, .int .u32 f] w fun e w' =>
      ∃ (Z : List Nat) (cy : Nat), Z.length = n ∧ Ok Z ∧ cy < 4294967296 ∧ val Z + 4294967296 ^ n * cy = val A + val B * f ∧ e = .returned (.int .u32 cy) ∧ Wr w g (pre ++ Z ++ post) w' := by
  subst hmn
  obtain ⟨o, ho⟩ : ∃ o, pre.length = o := ⟨_, rfl⟩
  rw [ho]
  have HN := hid hn
  have HG := hid hg
  have HA := hid hA
  have HB := hid hB
  have HQ := hid hq
  have HO := hid ho
  unfold maxLen at hcm
  have hdm := hB.max
  unfold maxLen at hdm
  have hmd := hB.cap
  clear hn hg hA hB hq ho
  go_enter Tryz.func37, Tryz.ntmps37
  go_wp2
  go_loopw [7, 11] (fun cv i wr => ∃ (k cy : Nat), k ≤ m ∧ i = .int .i64 k ∧ cy < 4294967296 ∧ cv = .int .u64 cy ∧ ∃ Z : List Nat, Hid (Z.length = k ∧ Ok Z ∧ val Z + 4294967296 ^ k * cy = val (A.take k) + val (B.take k) * f ∧ Wr w g (pre ++ (Z ++ A.drop k) ++ post) wr)) (fun _ i _ => m - (intOf i).toNat)
  case atStart => exact ⟨0, 0, Nat.zero_le _, rfl, by omega, rfl, [], rfl, Ok.nil, by simp [val], by simpa using Wr.refl HG.out⟩
  case round =>
    obtain ⟨k, cy, hk, rfl, hcy, rfl, Z, HZ⟩ := hrel
    by_cases hlt : k < m
    · have hBl := HB.out.lie
      obtain ⟨b, o', rfl, hcell'⟩ := (HZ.out.2.2.2.limbs hBl HQ.out) k (by have := HB.out.len; omega)
      have hcell := (Wr.blk HG.out HZ.out.2.2.2).cell (o + k) (by have := HZ.out.1; have := HN.out; have := HO.out; simp; omega)
      have hfz := (Wr.blk HG.out HZ.out.2.2.2).frozen (o + k)
      rw [← HO.out, mid_get pre Z A post k HZ.out.1 (by rw [HN.out]; omega), HO.out] at hcell
      obtain ⟨x, hx⟩ : ∃ x, A.getD k 0 = x := ⟨_, rfl⟩
      obtain ⟨y, hy⟩ : ∃ y, B.getD k 0 = y := ⟨_, rfl⟩
      rw [hx] at hcell
      rw [hy] at hcell'
      have hxb : x < 4294967296 := by rw [← hx]; exact HA.out.getD k
      have hyb : y < 4294967296 := by rw [← hy]; exact HB.out.ok.getD k
      have hyf : y * f ≤ 18446744065119617025 := by
        have h1 : y * f ≤ 4294967295 * 4294967295 := Nat.mul_le_mul (by omega) (by omega)
        omega
      have hyf' : (y : Int) * (f : Int) ≤ 18446744065119617025 := by rw [← Int.natCast_mul]; omega
      have hyf0 : 0 ≤ (y : Int) * (f : Int) := by rw [← Int.natCast_mul]; omega
      have HYF := hid hyf
      have HX := hid hx
      have HY := hid hy
      clear hx hy hBl hyf
      go_wp2_with fail
      go_quiet (fail)
      go_wp2
      go_roundw
      case rel =>
        obtain ⟨hz1, hz2, hz3, hz4⟩ := HZ.out
        have hyf := HYF.out
        have e0 : (cy : Int) + ((x : Int) + (y : Int) * (f : Int)) = ((cy + (x + y * f) : Nat) : Int) := by simp
        rw [e0]
        refine ⟨k + 1, (cy + (x + y * f)) / 4294967296, by omega, by go_num, by omega, by rw [Int.natCast_ediv]; rfl, Z ++ [(cy + (x + y * f)) % 4294967296], by simp [hz1], hz2.snoc (by omega), ?_, ?_⟩
        · rw [val_snoc, hz1, val_take_succ A k (by rw [HN.out]; omega), val_take_succ B k (by rw [HB.out.len]; omega), Nat.pow_succ, HX.out, HY.out]
          exact times_step hz3 (by omega)
        · exact Wr.next' HG.out hz1 (by rw [HN.out]; omega) (hz4.drewN nq) (by rw [HO.out]) (by rw [Int.natCast_emod]; rfl)
      case measure => simp [intOf]; omega
    · go_wp2
      go_ret
      obtain ⟨hz1, hz2, hz3, hz4⟩ := HZ.out
      have hkm : k = m := by omega
      subst hkm
      rw [List.take_of_length_le (l := B) (by rw [HB.out.len]; omega), List.take_of_length_le (l := A) (by rw [HN.out]; omega)] at hz3
      rw [List.drop_of_length_le (by rw [HN.out]; omega), List.append_nil] at hz4
      exact ⟨Z, cy, hz1, hz2, hcy, hz3, rfl, hz4⟩
end Go.Proofs.YtdeeoimgkcblkaaGreatDoor

/-
  nat.Mul.
-/
namespace Go.Proofs.YtdeeoimgkcblkaaGreatDoor
open Go.RowKit Nt
set_option linter.unusedSimpArgs false
set_option linter.unusedVariables false
set_option maxRecDepth 20000

set_option maxHeartbeats 1000000 in
theorem mul_nil (w : World) (p q : Option Addr) (n c m d : Nat) (xs ys : List Nat) (h : Sl w p n c xs) (h' : Sl w q m d ys) (h0 : val xs = 0 ∨ val ys = 0) :
    Calls Tryz.prog 23 #[.slice p n c, .slice q m d] w fun e w' => e = .returned (.slice none 0 0) ∧ w' = w := by
  obtain ⟨la, hla⟩ : ∃ la, (digs (val xs)).length = la := ⟨_, rfl⟩
  obtain ⟨lb, hlb⟩ : ∃ lb, (digs (val ys)).length = lb := ⟨_, rfl⟩
  have T1 := hid (trim_s w p n c la xs hla h)
  have T2 := hid (trim_s w q m d lb ys hlb h')
  have hl0 : la = 0 ∨ lb = 0 := by
    rcases h0 with h0 | h0
    · left; rw [← hla, h0]; rfl
    · right; rw [← hlb, h0]; rfl
  clear h h' h0 hla hlb
  by_cases ha : la = 0
  · subst ha
    go_enter Tryz.func23, Tryz.ntmps23
    go_wp2_with fail
    refine T1.out.mono ?_
    rintro e w' ⟨rfl, rfl⟩
    go_wp2_with fail
    refine T2.out.mono ?_
    rintro e w' ⟨rfl, rfl⟩
    go_wp2
    go_ret
    exact ⟨rfl, rfl⟩
  · have hb : lb = 0 := by omega
    subst hb
    have ha' : ((la : Int) == 0) = false := beq_eq_false_iff_ne.2 (by omega)
    go_enter Tryz.func23, Tryz.ntmps23
    go_wp2_with fail
    refine T1.out.mono ?_
    rintro e w' ⟨rfl, rfl⟩
    go_wp2_with fail
    refine T2.out.mono ?_
    rintro e w' ⟨rfl, rfl⟩
    go_wp2
    go_ret
    exact ⟨rfl, rfl⟩

/-- One row of the product more. -/
theorem mul_step {A B R mid' : List Nat} {k lb cy a : Nat} (hk : k < A.length) (hR : R.length = k + lb) (ha : A.getD k 0 = a) (hm : mid'.length = lb)
    (hv : val R = val (A.take k) * val B) (hz : val mid' + 4294967296 ^ lb * cy = val (R.drop k) + val B * a) : val (R.take k ++ mid' ++ [cy]) = val (A.take (k + 1)) * val B := by
  have e1 := val_split R k (by omega)
  have e2 : (R.take k).length = k := by simp; omega
  rw [val_take_succ A k hk, ha, Nat.add_mul, ← hv, e1, val_append, val_append, val_one, List.length_append, e2, hm, Nat.pow_add]
  have h2 : 4294967296 ^ k * (val mid' + 4294967296 ^ lb * cy) = 4294967296 ^ k * (val (R.drop k) + val B * a) := by rw [hz]
  rw [Nat.mul_add, Nat.mul_add, ← Nat.mul_assoc] at h2
  have h3 : 4294967296 ^ k * a * val B = 4294967296 ^ k * (val B * a) := by rw [Nat.mul_assoc, Nat.mul_comm a]
  rw [h3]
  omega

set_option maxHeartbeats 2000000 in
theorem mul_pos (w : World) (p q : Option Addr) (n c m d : Nat) (xs ys : List Nat) (h : Sl w p n c xs) (h' : Sl w q m d ys) (hs : n + m ≤ 70368744177664) (h0 : val xs ≠ 0) (h0' : val ys ≠ 0) :
    Calls Tryz.prog 23 #[.slice p n c, .slice q m d] w fun e w' => ∃ r cr, e = .returned (.slice r (digs (val xs * val ys)).length cr) ∧ Res w w' r cr (val xs * val ys) := by
  obtain ⟨la, hla⟩ : ∃ la, (digs (val xs)).length = la := ⟨_, rfl⟩
  obtain ⟨lb, hlb⟩ : ∃ lb, (digs (val ys)).length = lb := ⟨_, rfl⟩
  have hlan : la ≤ n := by rw [← hla]; exact h.dl
  have hlbm : lb ≤ m := by rw [← hlb]; exact h'.dl
  have hla0 : 0 < la := by
    apply Nat.pos_of_ne_zero; intro e; exact h0 ((digs_length_zero _).1 (hla.trans e))
  have hlb0 : 0 < lb := by
    apply Nat.pos_of_ne_zero; intro e; exact h0' ((digs_length_zero _).1 (hlb.trans e))
  have T1 := hid (trim_s w p n c la xs hla h)
  have T2 := hid (trim_s w q m d lb ys hlb h')
  have HX := hid h.digs
  have HY := hid h'.digs
  rw [hla] at HX
  rw [hlb] at HY
  have hc := h.cap
  have hm := h.max
  have hc' := h'.cap
  have hm' := h'.max
  unfold maxLen at hm hm'
  have M : ∀ W : World, (Instr.makeSlice 22 (.int .i64 ((la : Int) + lb)) (.int .i64 ((la : Int) + lb))).run Tryz.prog W = .ok (.slice (some ⟨W.heap.size, 0, none⟩) (la + lb) (la + lb)) (W.alloc (.cells (U (List.replicate (la + lb) 0)).toArray 54)) := by
    have := make_u32 (la + lb) (by omega)
    rw [Int.natCast_add] at this
    exact this
  have ha' : ((la : Int) == 0) = false := beq_eq_false_iff_ne.2 (by omega)
  have hb' : ((lb : Int) == 0) = false := beq_eq_false_iff_ne.2 (by omega)
  clear h h' h0 h0' hla hlb
  go_enter Tryz.func23, Tryz.ntmps23
  go_wp2_with fail
  refine T1.out.mono ?_
  rintro e w' ⟨rfl, rfl⟩
  go_wp2_with fail
  refine T2.out.mono ?_
  rintro e w' ⟨rfl, rfl⟩
  go_wp2_with fail
  obtain ⟨W, hW⟩ : ∃ W, W = w'.alloc (.cells (U (List.replicate (la + lb) 0)).toArray 54) := ⟨_, rfl⟩
  have HB := hid (show Below w'.heap.size w' W from by rw [hW]; exact (Below.refl _ _).alloc (Nat.le_refl _) _)
  have HG := hid (show Blk W w'.heap.size (List.replicate (la + lb) 0) from by rw [hW]; exact heap_alloc_last _ _)
  rw [← hW]
  clear hW M T1 T2
  obtain ⟨g, hg⟩ : ∃ g, g = w'.heap.size := ⟨_, rfl⟩
  rw [← hg] at HG ⊢
  have HGE := hid hg
  clear hg
  go_loopw [28] (fun i wr => ∃ k : Nat, k ≤ la ∧ i = .int .i64 k ∧ ∃ R : List Nat, Hid (R.length = k + lb ∧ Ok R ∧ val R = val ((digs (val xs)).take k) * val (digs (val ys)) ∧ Wr W g (R ++ List.replicate (la - k) 0) wr)) (fun i _ => la - (intOf i).toNat)
  case atStart =>
    refine ⟨0, Nat.zero_le _, rfl, List.replicate lb 0, by simp, Ok.replicate _, by simp [val, val_replicate], ?_⟩
    have := Wr.refl HG.out
    rw [List.replicate_append_replicate, Nat.sub_zero, Nat.add_comm lb la]
    exact this
  case round =>
    obtain ⟨k, hk, rfl, R, HR⟩ := hrel
    by_cases hlt : k < la
    · obtain ⟨b, o, rfl, hcell⟩ := HR.out.2.2.2.limbs (HX.out.below HB.out).lie (by have := HX.out.apart (g := g) (by rw [HGE.out]; exact Nat.le_refl _); exact this) k (by have := HX.out.len; omega)
      obtain ⟨x, hx⟩ : ∃ x, (digs (val xs)).getD k 0 = x := ⟨_, rfl⟩
      rw [hx] at hcell
      have hxb : x < 4294967296 := by rw [← hx]; exact (ok_digs _).getD k
      have HXK := hid hx
      clear hx
      obtain ⟨r1, r2, r3, r4⟩ := HR.out
      have hblk0 := Wr.blk HG.out r4
      have e0 : R.take k ++ R.drop k ++ List.replicate (la - k) 0 = R ++ List.replicate (la - k) 0 := by rw [List.take_append_drop]
      have etk : (R.take k).length = k := by simp; omega
      have A1 := addTimes_c wr g (R.take k) (R.drop k) (List.replicate (la - k) 0) lb (la + lb - k) q lb d (digs (val ys)) x (by simp; omega) (by omega) (by unfold maxLen; omega) (by rw [e0]; exact hblk0) (r2.drop k)
        ⟨HY.out.len, HY.out.cap, HY.out.max, HY.out.nil, HY.out.ok, r4.limbs (HY.out.below HB.out).lie (HY.out.apart (by rw [HGE.out]; exact Nat.le_refl _))⟩ (HY.out.apart (by rw [HGE.out]; exact Nat.le_refl _)) rfl hxb
      rw [etk] at A1
      have HA1 := hid A1
      have HBK := hid hblk0
      clear A1 r1 r2 r3 r4 hblk0 e0 etk
      go_wp2_with fail
      refine HA1.out.mono ?_
      rintro e w2 ⟨Z, cy, z1, z2, z3, z4, rfl, z5⟩
      have hbk2 : Blk w2 g (R.take k ++ Z ++ List.replicate (la - k) 0) := Wr.blk HBK.out z5
      have hlen : (R.take k ++ Z ++ List.replicate (la - k) 0).length = la + lb := by have := HR.out.1; simp [z1]; omega
      have hc2 := hbk2.cell (k + lb) (by rw [hlen]; omega)
      have hf2 := hbk2.frozen (k + lb)
      have HZ := hid (And.intro z1 (And.intro z2 (And.intro z3 (And.intro z4 z5))))
      obtain ⟨v0, hv0⟩ : ∃ v0, (R.take k ++ Z ++ List.replicate (la - k) 0).getD (k + lb) 0 = v0 := ⟨_, rfl⟩
      rw [hv0] at hc2
      clear z1 z2 z4 z5 hbk2 hlen hv0 HA1
      go_wp2
      go_roundw
      case rel =>
        obtain ⟨z1, z2, z3, z4, z5⟩ := HZ.out
        obtain ⟨r1, r2, r3, r4⟩ := HR.out
        refine ⟨k + 1, by omega, by go_num, R.take k ++ Z ++ [cy], ?_, ?_, ?_, ?_⟩
        · simp [z1]; omega
        · exact ((r2.take k).append z2).snoc z3
        · exact mul_step (by rw [HX.out.len]; exact hlt) r1 HXK.out z1 r3 z4
        · have hw : Wr W g (R.take k ++ Z ++ List.replicate (la - k) 0) w2 := r4.trans z5
          have := Wr.next' (pre := R.take k ++ Z) (zs := []) (A := List.replicate (la - k) 0) (post := []) (k := 0) (i := k + lb) (v := (cy : Int)) (z := cy) HG.out rfl (by simp; omega) (by simpa using hw) (by simp [z1]; omega) rfl
          simp only [List.nil_append, List.append_nil, List.drop_replicate, Nat.zero_add] at this
          rw [show la - (k + 1) = la - k - 1 from by omega]
          simpa [List.append_assoc] using this
      case measure => simp [intOf]; omega
    · obtain ⟨r1, r2, r3, r4⟩ := HR.out
      have hkl : k = la := by omega
      subst hkl
      rw [Nat.sub_self, List.replicate_zero, List.append_nil] at r4
      rw [List.take_of_length_le (by rw [HX.out.len]; exact Nat.le_refl _), val_digs, val_digs] at r3
      have hblk := Wr.blk HG.out r4
      have T3 := hid (trim_s wr (some ⟨g, 0, none⟩) (k + lb) (k + lb) (digs (val xs * val ys)).length R (by rw [r3]) ⟨r1, Nat.le_refl _, by unfold maxLen; omega, (fun e => by cases e), r2, hblk.limbs⟩)
      have RR := hid (Res.row (w := w') (w' := wr) (r4.below HB.out (by rw [HGE.out]; exact Nat.le_refl _)) hblk r2 r3 (by rw [HGE.out]; exact Nat.le_refl _) r1 (by unfold maxLen; omega))
      clear r1 r2 r3 r4 hblk
      go_wp2_with fail
      refine T3.out.mono ?_
      rintro e w3 ⟨rfl, rfl⟩
      go_wp2
      go_ret
      exact ⟨_, _, rfl, RR.out⟩

theorem mul_c (w : World) (p q : Option Addr) (n c m d : Nat) (xs ys : List Nat) (h : Sl w p n c xs) (h' : Sl w q m d ys) (hs : n + m ≤ 70368744177664) :
    Calls Tryz.prog 23 #[.slice p n c, .slice q m d] w fun e w' => ∃ r cr, e = .returned (.slice r (digs (val xs * val ys)).length cr) ∧ Res w w' r cr (val xs * val ys) := by
  by_cases h0 : val xs = 0
  · refine (mul_nil w p q n c m d xs ys h h' (Or.inl h0)).mono ?_
    rintro e w' ⟨rfl, rfl⟩
    rw [h0, Nat.zero_mul]
    exact ⟨none, 0, rfl, Res.nil (Below.refl _ _)⟩
  by_cases h1 : val ys = 0
  · refine (mul_nil w p q n c m d xs ys h h' (Or.inr h1)).mono ?_
    rintro e w' ⟨rfl, rfl⟩
    rw [h1, Nat.mul_zero]
    exact ⟨none, 0, rfl, Res.nil (Below.refl _ _)⟩
  exact mul_pos w p q n c m d xs ys h h' hs h0 h1
end Go.Proofs.YtdeeoimgkcblkaaGreatDoor

/-
  append onto a row of the call's own.
-/
namespace Go.Proofs.YtdeeoimgkcblkaaGreatDoor
open Go.RowKit Nt
set_option linter.unusedSimpArgs false
set_option linter.unusedVariables false
set_option maxRecDepth 20000

/-- The slice v, made by the call itself (blocks from base on), holds the limbs xs. -/
def Own (w : World) (base : Nat) (v : Value) (xs : List Nat) : Prop := w.ownsRow base 54 1 v xs.length (U xs)

theorem Own.nil (w : World) (base : Nat) : Own w base (.slice none 0 0) [] := World.ownsRow_nil _ _ _ _

theorem Own.sl {w : World} {base : Nat} {v : Value} {xs : List Nat} (h : Own w base v xs) (ho : Ok xs) : ∃ p c, v = .slice p xs.length c ∧ Sl w p xs.length c xs := by
  obtain ⟨h1, h2⟩ := h
  rcases h2 with ⟨rfl, h0⟩ | ⟨g, cap, cur, rfl, hb, hg, hc, hm, hs, ht⟩
  · have : xs = [] := List.length_eq_zero_iff.1 h0
    subst this
    exact ⟨none, 0, rfl, Sl.none w⟩
  · refine ⟨_, _, rfl, rfl, hc, hm, (fun e => by cases e), ho, fun i hi => ⟨g, 0, rfl, ?_⟩⟩
    have e : (cur.toList.take (xs.length * 1))[i]? = some (.int .u32 (xs.getD i 0)) := by rw [ht]; exact U_get xs i hi
    rw [List.getElem?_take, if_pos (by omega)] at e
    simp only [World.cell?, hg]
    simpa using e

theorem Own.alloc {w : World} {base : Nat} {v : Value} {xs : List Nat} (h : Own w base v xs) (o : Obj) : Own (w.alloc o) base v xs := World.ownsRow.alloc h o
theorem Own.drewN {w : World} {base : Nat} {v : Value} {xs : List Nat} (h : Own w base v xs) (n : Nat) : Own (w.drewN n) base v xs := h
theorem Own.below {w w' : World} {base : Nat} {v : Value} {xs : List Nat} (h : Own w base v xs) (hb : Below w.heap.size w w') : Own w' base v xs := by
  obtain ⟨h1, h2⟩ := h
  refine ⟨h1, ?_⟩
  rcases h2 with h2 | ⟨g, cap, cur, h3, h4, hg, hr⟩
  · exact Or.inl h2
  · exact Or.inr ⟨g, cap, cur, h3, h4, (hb.block g (Array.getElem?_eq_some_iff.1 hg).1).trans hg, hr⟩

theorem append_u32 {ops : Array Oper} {rest : List Oper} {o : Oper} {a : Act} {Q : Exit → Act → World → Prop} (w : World) (hgd : o.guard = none) (s x : Operand)
    (ho : o.op = .call { callee := .builtin .append, args := #[s, x], argTypes := #[22, 22] })
    (base : Nat) (v : Value) (xs : List Nat) (hs : a.eval s = v) (hown : Own w base v xs)
    (ad : Addr) (m c : Nat) (news : List Nat) (hx : a.eval x = .slice (some ad) m c) (hl : news.length = m) (hnews : Limbs w (some ad) news)
    (hb : xs.length + m ≤ 35184372088832) (hbase : base ≤ w.heap.size)
    (h : ∀ v' w', Own w' base v' (xs ++ news) → Below base w w' → wpList Tryz.prog ops Q rest (a.put o.dst v') w') : wpList Tryz.prog ops Q (o :: rest) a w := by
  obtain ⟨i0, hi, hz0, hz1, hz2⟩ := info_parts infoU32
  refine wpList_append_own w hgd s x 22 ho base 54 i0 (.int .u32 0) 1 4 Tryz.underlying22 hi hz0 hz1 hz2 rfl (by decide) v xs.length (U xs) hs hown ad m c (U news) hx (by simp [U, hl]) ?_ (oneCell_U news) (by unfold maxLen; omega) (by omega) hbase ?_
  · intro j u hj
    have hj' : j < news.length := by
      have := (List.getElem?_eq_some_iff.1 hj).1
      simpa [U] using this
    rw [U_get news j hj'] at hj
    obtain ⟨b, o', e, hc⟩ := hnews j hj'
    obtain rfl := Option.some.inj e
    rw [← hj, ← hc]
    rw [addr_add]
  · intro v' w' h1 h2 _
    refine h v' w' ?_ ?_
    · unfold Own
      rw [U_append, List.length_append, hl]
      exact h1
    · exact (Below.refl base w).grown h2 hbase (fun k hk => (World.ownsRow.lt hown k hk).1)
end Go.Proofs.YtdeeoimgkcblkaaGreatDoor
