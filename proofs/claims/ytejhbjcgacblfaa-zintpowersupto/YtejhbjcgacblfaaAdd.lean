/-
  nat.Add.
-/
import Derived.Test.YtejhbjcgacblfaaAddTo
namespace Go.Proofs.Ytejhbjcgacblfaa
open Go.RowKit Nt
set_option linter.unusedSimpArgs false
set_option linter.unusedVariables false

theorem addTo_0 (w : World) (g : Nat) (A : List Nat) (n c : Nat) (q : Option Addr) (m d : Nat) (B : List Nat) (hn : A.length = n) (hnc : n ≤ c) (hcm : c ≤ maxLen)
    (hg : Blk w g A) (hA : Ok A) (hB : Sl w q m d B) (hq : Apart q B g) (hmn : m ≤ n) :
    Calls Try.prog 53 #[.slice (some ⟨g, 0, none⟩) n c, .slice q m d] w fun e w' =>
      ∃ (Z : List Nat) (cy : Nat), Z.length = n ∧ Ok Z ∧ cy ≤ 1 ∧ val Z + 4294967296 ^ n * cy = val A + val B ∧ e = .returned (.int .u32 cy) ∧ Wr w g Z w' := by
  refine (addTo_c w g [] A [] n c q m d B hn hnc hcm (by simpa using hg) hA hB hq hmn).mono ?_
  rintro e w' ⟨Z, cy, h1, h2, h3, h4, h5, h6⟩
  exact ⟨Z, cy, h1, h2, h3, h4, h5, by simpa using h6⟩

theorem add_sum_aux (P VZ VA VB cy : Nat) (h : VZ + P * 4294967296 * cy = VA + VB) (a1 : VA < P) (a2 : VB < P) : VZ = VA + VB := by
  have hc : cy = 0 := by
    apply Classical.byContradiction
    intro hne
    have h2 : P * 2 ≤ P * (4294967296 * cy) := Nat.mul_le_mul_left _ (by omega)
    rw [← Nat.mul_assoc] at h2
    omega
  rw [hc, Nat.mul_zero] at h
  exact h

/-- No carry is left, as there is a limb more. -/
theorem add_sum {A B : List Nat} {k cy : Nat} {Z : List Nat} (hA : Ok A) (hB : Ok B) (hAk : A.length = k) (hBk : B.length ≤ k) (h : val Z + 4294967296 ^ (k + 1) * cy = val (A ++ [0]) + val B) : val Z = val A + val B := by
  have e : val (A ++ [0]) = val A := by rw [val_snoc, Nat.mul_zero, Nat.add_zero]
  rw [e, Nat.pow_succ] at h
  have a1 := val_lt hA
  rw [hAk] at a1
  exact add_sum_aux _ _ _ _ _ h a1 (Nat.lt_of_lt_of_le (val_lt hB) (Nat.pow_le_pow_right (Nat.zero_lt_succ _) hBk))

/-- Add's end: the row that was made, written once by addTo. -/
theorem add_end {w w' w'' : World} {A B Z : List Nat} {k cy n : Nat} (hA : Ok A) (hB : Ok B) (hAk : A.length = k) (hBk : B.length ≤ k) (hz : Ok Z) (hl : Z.length = k + 1) (hk : k ≤ 70368744177663) (hn : val A + val B = n)
    (h : val Z + 4294967296 ^ (k + 1) * cy = val (A ++ [0]) + val B) (hw : w' = w.alloc (.cells (U (A ++ [0])).toArray 44)) (hwr : Wr w' w.heap.size Z w'') : Res w w'' (some ⟨w.heap.size, 0, none⟩) (k + 1) n := by
  have hb : Below w.heap.size w w' := by rw [hw]; exact (Below.refl _ _).alloc (Nat.le_refl _) _
  have hblk : Blk w' w.heap.size (A ++ [0]) := by rw [hw]; exact heap_alloc_last _ _
  exact Res.row (hwr.below hb (Nat.le_refl _)) (Wr.blk hblk hwr) hz ((add_sum hA hB hAk hBk h).trans hn) (Nat.le_refl _) hl (by unfold maxLen; omega)

set_option maxHeartbeats 1000000 in
theorem add_c (w : World) (p q : Option Addr) (n c m d : Nat) (xs ys : List Nat) (h : Sl w p n c xs) (h' : Sl w q m d ys) (hs : n ≤ 70368744177663) (hs' : m ≤ 70368744177663) :
    Calls Try.prog 30 #[.slice p n c, .slice q m d] w fun e w' => ∃ r cr, e = .returned (.slice r (digs (val xs + val ys)).length cr) ∧ Res w w' r cr (val xs + val ys) := by
  obtain ⟨la, hla⟩ : ∃ la, (digs (val xs)).length = la := ⟨_, rfl⟩
  obtain ⟨lb, hlb⟩ : ∃ lb, (digs (val ys)).length = lb := ⟨_, rfl⟩
  have hlan : la ≤ n := by rw [← hla]; exact h.dl
  have hlbm : lb ≤ m := by rw [← hlb]; exact h'.dl
  have T1 := hid (trim_s w p n c la xs hla h)
  have T2 := hid (trim_s w q m d lb ys hlb h')
  have HX := hid h.digs
  have HY := hid h'.digs
  rw [hla] at HX
  rw [hlb] at HY
  have hc := h.cap
  have hm := h.max
  have hc' := h'.cap
  have hm' := h'.max
  unfold maxLen at hm hm'
  clear h h'
  by_cases hlt : la < lb
  · have M : ∀ W : World, (Instr.makeSlice 22 (.int .i64 ((lb : Int) + 1)) (.int .i64 ((lb : Int) + 1))).run Try.prog W = .ok (.slice (some ⟨W.heap.size, 0, none⟩) (lb + 1) (lb + 1)) (W.alloc (.cells (U (List.replicate (lb + 1) 0)).toArray 44)) := by
      have := make_u32 (lb + 1) (by omega)
      simpa using this
    have hcp : ∀ ty, (Builtin.copy_ #[22, 22] ty #[.slice (some ⟨w.heap.size, 0, none⟩) (lb + 1) (lb + 1), .slice q lb d]).run Try.prog (w.alloc (.cells (U (List.replicate (lb + 1) 0)).toArray 44)) = .ok (goInt lb) (w.alloc (.cells (U (digs (val ys) ++ [0])).toArray 44)) := by
      intro ty
      rw [copy_u32 _ ty _ lb (lb + 1) d q (digs (val ys)) (List.replicate (lb + 1) 0) HY.out.len (by simp) (by omega) (HY.out.lie.below ((Below.refl _ _).alloc (Nat.le_refl _) _)) (heap_alloc_last _ _) HY.out.nil]
      rw [World.setRow_alloc_new]
      simp
    go_enter Try.func30, Try.ntmps30
    go_wp2_with fail
    refine T1.out.mono ?_
    rintro e w' ⟨rfl, rfl⟩
    go_wp2_with fail
    refine T2.out.mono ?_
    rintro e w' ⟨rfl, rfl⟩
    have hal : Below w'.heap.size w' (w'.alloc (.cells (U (digs (val ys) ++ [0])).toArray 44)) := (Below.refl _ _).alloc (Nat.le_refl _) _
    have A1 := hid (addTo_0 (w'.alloc (.cells (U (digs (val ys) ++ [0])).toArray 44)) w'.heap.size (digs (val ys) ++ [0]) (lb + 1) (lb + 1) p la c (digs (val xs)) (by simp [HY.out.len]) (Nat.le_refl _) (by unfold maxLen; omega)
      (heap_alloc_last _ _) ((ok_digs _).snoc (by omega)) (HX.out.below hal) (HX.out.apart (Nat.le_refl _)) (by omega))
    clear hal
    go_wp2_with fail
    refine A1.out.mono ?_
    rintro e w'' ⟨Z, cy, z1, z2, z3, z4, rfl, z5⟩
    have R := hid (add_end (n := val xs + val ys) (ok_digs (val ys)) (ok_digs (val xs)) HY.out.len (by rw [HX.out.len]; omega) z2 z1 (by omega) (by rw [val_digs, val_digs, Nat.add_comm]) z4 rfl z5)
    have T3 := hid (trim_s w'' (some ⟨w'.heap.size, 0, none⟩) (lb + 1) (lb + 1) (digs (val Z)).length Z rfl ⟨z1, Nat.le_refl _, by unfold maxLen; omega, (fun e => by cases e), z2, (Wr.blk (heap_alloc_last _ _) z5).limbs⟩)
    have hv : val Z = val xs + val ys := by
      have := add_sum (ok_digs (val ys)) (ok_digs (val xs)) HY.out.len (by rw [HX.out.len]; omega) z4
      rwa [val_digs, val_digs, Nat.add_comm] at this
    rw [hv] at T3
    clear hv z1 z2 z3 z4 z5 A1 hcp M
    go_wp2_with fail
    refine T3.out.mono ?_
    rintro e w3 ⟨rfl, rfl⟩
    go_wp2
    go_ret
    exact ⟨_, _, rfl, R.out⟩
  · have M : ∀ W : World, (Instr.makeSlice 22 (.int .i64 ((la : Int) + 1)) (.int .i64 ((la : Int) + 1))).run Try.prog W = .ok (.slice (some ⟨W.heap.size, 0, none⟩) (la + 1) (la + 1)) (W.alloc (.cells (U (List.replicate (la + 1) 0)).toArray 44)) := by
      have := make_u32 (la + 1) (by omega)
      simpa using this
    have hcp : ∀ ty, (Builtin.copy_ #[22, 22] ty #[.slice (some ⟨w.heap.size, 0, none⟩) (la + 1) (la + 1), .slice p la c]).run Try.prog (w.alloc (.cells (U (List.replicate (la + 1) 0)).toArray 44)) = .ok (goInt la) (w.alloc (.cells (U (digs (val xs) ++ [0])).toArray 44)) := by
      intro ty
      rw [copy_u32 _ ty _ la (la + 1) c p (digs (val xs)) (List.replicate (la + 1) 0) HX.out.len (by simp) (by omega) (HX.out.lie.below ((Below.refl _ _).alloc (Nat.le_refl _) _)) (heap_alloc_last _ _) HX.out.nil]
      rw [World.setRow_alloc_new]
      simp
    go_enter Try.func30, Try.ntmps30
    go_wp2_with fail
    refine T1.out.mono ?_
    rintro e w' ⟨rfl, rfl⟩
    go_wp2_with fail
    refine T2.out.mono ?_
    rintro e w' ⟨rfl, rfl⟩
    have hal : Below w'.heap.size w' (w'.alloc (.cells (U (digs (val xs) ++ [0])).toArray 44)) := (Below.refl _ _).alloc (Nat.le_refl _) _
    have A1 := hid (addTo_0 (w'.alloc (.cells (U (digs (val xs) ++ [0])).toArray 44)) w'.heap.size (digs (val xs) ++ [0]) (la + 1) (la + 1) q lb d (digs (val ys)) (by simp [HX.out.len]) (Nat.le_refl _) (by unfold maxLen; omega)
      (heap_alloc_last _ _) ((ok_digs _).snoc (by omega)) (HY.out.below hal) (HY.out.apart (Nat.le_refl _)) (by omega))
    clear hal
    go_wp2_with fail
    refine A1.out.mono ?_
    rintro e w'' ⟨Z, cy, z1, z2, z3, z4, rfl, z5⟩
    have R := hid (add_end (n := val xs + val ys) (ok_digs (val xs)) (ok_digs (val ys)) HX.out.len (by rw [HY.out.len]; omega) z2 z1 (by omega) (by rw [val_digs, val_digs]) z4 rfl z5)
    have T3 := hid (trim_s w'' (some ⟨w'.heap.size, 0, none⟩) (la + 1) (la + 1) (digs (val Z)).length Z rfl ⟨z1, Nat.le_refl _, by unfold maxLen; omega, (fun e => by cases e), z2, (Wr.blk (heap_alloc_last _ _) z5).limbs⟩)
    have hv : val Z = val xs + val ys := by
      have := add_sum (ok_digs (val xs)) (ok_digs (val ys)) HX.out.len (by rw [HY.out.len]; omega) z4
      rwa [val_digs, val_digs] at this
    rw [hv] at T3
    clear hv z1 z2 z3 z4 z5 A1 hcp M
    go_wp2_with fail
    refine T3.out.mono ?_
    rintro e w3 ⟨rfl, rfl⟩
    go_wp2
    go_ret
    exact ⟨_, _, rfl, R.out⟩
end Go.Proofs.Ytejhbjcgacblfaa
