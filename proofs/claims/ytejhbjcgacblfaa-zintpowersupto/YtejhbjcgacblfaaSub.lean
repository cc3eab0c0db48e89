/-
  nat.Sub.
-/
import Derived.Test.YtejhbjcgacblfaaSubFrom
namespace Go.Proofs.Ytejhbjcgacblfaa
open Go.RowKit Nt
set_option linter.unusedSimpArgs false
set_option linter.unusedVariables false

set_option maxHeartbeats 1000000 in
theorem sub_c (w : World) (p q : Option Addr) (n c m d : Nat) (xs ys : List Nat) (h : Sl w p n c xs) (h' : Sl w q m d ys) (hs : n ≤ 70368744177664) (hle : val ys ≤ val xs) :
    Calls Try.prog 31 #[.slice p n c, .slice q m d] w fun e w' => ∃ r cr, e = .returned (.tuple #[.slice r (digs (val xs - val ys)).length cr, .int .i64 0]) ∧ Res w w' r cr (val xs - val ys) := by
  have C := hid (cmp_s w p q n c m d xs ys h h')
  have hcmp : cmpN (val xs) (val ys) = 0 ∨ cmpN (val xs) (val ys) = 1 := by
    unfold cmpN
    by_cases e : val xs = val ys
    · simp [e]
    · have h1 : ¬ val xs < val ys := by omega
      simp [h1, e]
  obtain ⟨cv, hcv⟩ : ∃ cv, cmpN (val xs) (val ys) = cv := ⟨_, rfl⟩
  rw [hcv] at C hcmp
  have hcv0 : 0 ≤ cv := by omega
  obtain ⟨la, hla⟩ : ∃ la, (digs (val xs)).length = la := ⟨_, rfl⟩
  obtain ⟨lb, hlb⟩ : ∃ lb, (digs (val ys)).length = lb := ⟨_, rfl⟩
  have hll : lb ≤ la := by rw [← hla, ← hlb]; exact digs_length_mono hle
  have hlan : la ≤ n := by rw [← hla]; exact h.dl
  have HH := hid h
  have HH' := hid h'
  have HLA := hid hla
  have HLB := hid hlb
  have HLE := hid hle
  have hc := h.cap
  have hm := h.max
  have hc' := h'.cap
  have hm' := h'.max
  unfold maxLen at hm hm'
  clear h h' hla hlb hcv hcmp hle
  go_enter Try.func31, Try.ntmps31
  go_wp2_with fail
  refine C.out.mono ?_
  rintro e w' ⟨rfl, nq, rfl⟩
  have hb1 : Below w.heap.size w (w.drewN nq) := below_drewN' (Below.refl _ _) nq
  have N1 := hid (norm_c (w.drewN nq) p n c xs (HH.out.below hb1) hs)
  rw [HLA.out] at N1
  generalize hW : w.drewN nq = W at *
  go_wp2_with fail
  refine N1.out.mono ?_
  rintro e w' ⟨rfl, rfl⟩
  have hal : Below W.heap.size W (W.alloc (.cells (U (digs (val xs))).toArray 44)) := (Below.refl _ _).alloc (Nat.le_refl _) _
  have HY1 := hid ((HH'.out.below hb1).below hal)
  have T := hid (trim_s (W.alloc (.cells (U (digs (val xs))).toArray 44)) q m d lb ys HLB.out HY1.out)
  have S1 := hid (subFrom_c (W.alloc (.cells (U (digs (val xs))).toArray 44)) W.heap.size (digs (val xs)) la la q lb d (digs (val ys)) HLA.out (Nat.le_refl _) (by unfold maxLen; omega) []
    (by rw [List.append_nil]; exact heap_alloc_last _ _) (ok_digs _) (by have := HY1.out.digs; rw [HLB.out] at this; exact this) ((HH'.out.below hb1).digs.apart (Nat.le_refl _)) hll (by rw [val_digs, val_digs]; exact HLE.out))
  have HAL := hid hal
  have HB1 := hid hb1
  have HWW := hid hW
  clear hal hb1 hW
  go_wp2_with fail
  refine T.out.mono ?_
  rintro e w' ⟨rfl, rfl⟩
  go_wp2_with fail
  refine S1.out.mono ?_
  rintro e w2 ⟨Z, z1, z2, z3, rfl, z4⟩
  rw [val_digs, val_digs] at z3
  rw [List.append_nil] at z4
  have hZ : val Z = val xs - val ys := by omega
  have R := hid (Res.row (w := W) (w' := w2) (z4.below HAL.out (Nat.le_refl _)) (Wr.blk (heap_alloc_last _ _) z4) z2 hZ (Nat.le_refl _) z1 (by unfold maxLen; omega))
  have T3 := hid (trim_s w2 (some ⟨W.heap.size, 0, none⟩) la la (digs (val xs - val ys)).length Z (by rw [hZ]) ⟨z1, Nat.le_refl _, by unfold maxLen; omega, (fun e => by cases e), z2, (Wr.blk (heap_alloc_last _ _) z4).limbs⟩)
  clear z1 z2 z3 z4 hZ
  go_wp2_with fail
  refine T3.out.mono ?_
  rintro e w3 ⟨rfl, rfl⟩
  go_wp2
  go_ret2
  refine ⟨_, _, rfl, ?_⟩
  exact R.out.since HB1.out
end Go.Proofs.Ytejhbjcgacblfaa
