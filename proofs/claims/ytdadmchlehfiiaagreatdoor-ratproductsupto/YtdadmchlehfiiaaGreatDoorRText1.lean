/-
  The text of 1.
-/
import Derived.Test.YtdadmchlehfiiaaGreatDoorSetB
import Derived.Test.YtdadmchlehfiiaaGreatDoorSetK
import Derived.Test.YtdadmchlehfiiaaGreatDoorZSign
import Derived.Laws.Append
import Derived.Laws.IdiomStrings
namespace Go.Proofs.YtdadmchlehfiiaaGreatDoor
open Go.RowKit Nt
set_option linter.unusedSimpArgs false
set_option linter.unusedVariables false
set_option maxRecDepth 20000

set_option maxRecDepth 100000 in
theorem small1 (w : World) : Calls Tryz.prog 89 #[.int .i64 1] w fun e w' => e = .returned (.string ⟨#[49]⟩) ∧ w' = w := by
  go_enter Tryz.func89, Tryz.ntmps89
  go_wp2
  go_ret
  exact ⟨rfl, rfl⟩

theorem one_cell (w : World) (a : Value) (Z : Array Value) (t : TypeId) : (w.alloc (.cells (#[a] ++ Z) t)).drew.cell? ⟨w.heap.size, 0, none⟩ = some a := by
  have hl := heap_alloc_last w (.cells (#[a] ++ Z) t)
  show (w.alloc (.cells (#[a] ++ Z) t)).cell? ⟨w.heap.size, 0, none⟩ = some a
  simp only [World.cell?]
  rw [hl]
  show (#[a] ++ Z)[0]? = _
  rw [Array.getElem?_append_left (by simp)]
  rfl

theorem iapp1 (w : World) : Calls Tryz.prog 84 #[.slice none 0 0, .int .u64 1, .int .i64 10] w fun e w' => ∃ cap, e = .returned (.slice (some ⟨w.heap.size, 0, none⟩) 1 cap) ∧ w'.cell? ⟨w.heap.size, 0, none⟩ = some (.int .u8 49) ∧ Below w.heap.size w w' := by
  have S := hid (small1 w)
  go_enter Tryz.func84, Tryz.ntmps84
  go_wp2_with fail
  refine S.out.mono ?_
  rintro e w' ⟨rfl, rfl⟩
  go_wp2
  go_ret
  exact ⟨_, rfl, one_cell _ _ _ _, ((Below.refl _ _).alloc (Nat.le_refl _) _).drew⟩
theorem app1 (w : World) : Calls Tryz.prog 74 #[.slice none 0 0, .int .u64 1, .int .i64 10] w fun e w' => ∃ cap, e = .returned (.slice (some ⟨w.heap.size, 0, none⟩) 1 cap) ∧ w'.cell? ⟨w.heap.size, 0, none⟩ = some (.int .u8 49) ∧ Below w.heap.size w w' := by
  have S := hid (iapp1 w)
  go_enter Tryz.func74, Tryz.ntmps74
  go_wp2_with fail
  refine S.out.mono ?_
  rintro e w' ⟨cap, rfl, h1, h2⟩
  go_wp2
  go_ret
  exact ⟨cap, rfl, h1, h2⟩

theorem zero_one {Z : List Nat} (h : Z.length = 1) (hv : val Z = 0) : Z = [0] := by
  match Z, h with
  | [x], _ =>
    simp [val] at hv
    rw [hv]
def lenV : Value → Nat
  | .slice _ n _ => n
  | _ => 0

set_option maxRecDepth 20000 in
set_option maxHeartbeats 4000000 in
theorem text1 (w : World) (p : Option Addr) (n c : Nat) (xs : List Nat) (h : Sl w p n c xs) (hv : val xs = 1) (hs : n ≤ 70368744177664) :
    Calls Tryz.prog 53 #[.slice p n c] w fun e w' => e = .returned (.string ⟨#[49]⟩) ∧ Below w.heap.size w w' := by
  have B1 := below_alloc w (.cells #[] 52)
  have N := norm_c (w.alloc (.cells #[] 52)) p n c xs (h.below B1) hs
  have dOne : digs 1 = [1] := digs_small (by omega) (by omega)
  rw [hv, dOne] at N
  have E0 := heap_alloc_last w (.cells #[] 52)
  have B2 := below_alloc (w.alloc (.cells #[] 52)) (.cells (U [1]).toArray 52)
  have E1 : ((w.alloc (.cells #[] 52)).alloc (.cells (U [1]).toArray 52)).heap[w.heap.size]? = some (.cells #[] 52) := (B2.block _ (by simp)).trans E0
  have E2 := heap_alloc_last (w.alloc (.cells #[] 52)) (.cells (U [1]).toArray 52)
  rw [show (w.alloc (.cells #[] 52)).heap.size = w.heap.size + 1 from by simp] at E2 N
  have HB := hid (B1.trans (B2.mono B1.size))
  obtain ⟨W, hW⟩ : ∃ W, (w.alloc (.cells #[] 52)).alloc (.cells (U [1]).toArray 52) = W := ⟨_, rfl⟩
  rw [hW] at N E1 E2 HB
  have HN := hid N
  have hWs : W.heap.size = w.heap.size + 2 := by rw [← hW]; simp
  have HE1 := hid E1
  have HE2 : Hid (Blk W (w.heap.size + 1) [1]) := E2
  obtain ⟨g, hg⟩ : ∃ g, w.heap.size = g := ⟨_, rfl⟩
  clear h N B1 B2 E0 E1 E2 hW hv dOne
  go_enter Tryz.func53, Tryz.ntmps53
  go_wp2_with fail
  refine HN.out.mono ?_
  rintro e w' ⟨rfl, rfl⟩
  go_wp2_with fail
  have DIV := divSmall_c w' (g + 1) [1] [] 1 1 1000000000 rfl (Nat.le_refl _) (by unfold maxLen; omega) (by rw [← hg]; exact HE2.out) (Ok.cons (by omega) Ok.nil) (by omega) (by omega)
  rw [show val [1] % 1000000000 = 1 from rfl, show val [1] / 1000000000 = 0 from rfl] at DIV
  have HDIV := hid DIV
  clear DIV
  have hsz : w'.heap.size = g + 2 := by rw [hWs, hg]
  go_loopw [3, 4] (fun ch rs wr => (ch = .slice (some ⟨g, 0, none⟩) 0 0 ∧ rs = .slice (some ⟨g + 1, 0, none⟩) 1 1 ∧ wr = w') ∨ (∃ gc cap, ch = .slice (some ⟨gc, 0, none⟩) 1 cap ∧ rs = .slice (some ⟨g + 1, 0, none⟩) 0 1 ∧ wr.cell? ⟨gc, 0, none⟩ = some (.int .u32 1) ∧ Hid (Below w.heap.size w wr))) (fun _ rs _ => lenV rs)
  case atStart => exact Or.inl ⟨rfl, rfl, rfl⟩
  case round =>
    rcases hrel with ⟨rfl, rfl, rfl⟩ | ⟨gc, cap, rfl, rfl, hcell, HBr⟩
    · go_wp2_with (first
        | (go_at_call 67; refine HDIV.out.mono ?_; rintro e w1 ⟨Z, hZl, hZo, hZv, rfl, hwr⟩; have hZ0 := zero_one hZl hZv; subst hZ0; have HW1 := hid (hwr.below HB.out (by omega)); have TR := hid (fun W2 (hb : Below w1.heap.size w1 W2) => trim_s W2 (some ⟨g + 1, 0, none⟩) 1 1 0 [0] rfl (Sl.below (sl_one (Wr.blk (by rw [← hg]; exact HE2.out) hwr) (by omega)) hb)); have hs1 : w1.heap.size = wr.heap.size := hwr.size; clear hwr hZv hZo hZl)
        | (go_at_call 45; refine (TR.out _ (((Below.refl _ _).alloc (Nat.le_refl _) _).alloc (by simp) _).drew).mono ?_; rintro e w2 ⟨rfl, rfl⟩)
        | fail)
      go_roundw
      case rel =>
        refine Or.inr ⟨_, _, rfl, rfl, ?_, ?_⟩
        · rw [show g + 2 + 1 = (w1.alloc (.cells #[.int .u32 1] 52)).heap.size from by simp; omega]
          exact one_cell _ _ _ _
        · exact ((HW1.out.alloc HW1.out.size _).alloc (by have := HW1.out.size; simp; omega) _).drew
      case measure => simp [lenV]
    · have AP := hid (app1 wr)
      go_wp2_with (go_at_call 74; refine AP.out.mono ?_; rintro e w3 ⟨cap3, rfl, hd0, hB3⟩)
      have HB4 := hid (HBr.out.trans (hB3.mono HBr.out.size))
      clear AP hB3
      obtain ⟨wo, rfl⟩ : ∃ wo : World, wo = wr := ⟨_, rfl⟩
      go_loopw [6, 34] (fun out i wz => out = .slice (some ⟨wo.heap.size, 0, none⟩) 1 cap3 ∧ i = .int .i64 0 ∧ wz = w3) (fun _ _ _ => 0)
      case atStart => exact ⟨rfl, rfl, rfl⟩
      case round =>
        obtain ⟨rfl, rfl, rfl⟩ := hrel
        have CV : (convert 86 9 (.slice (some ⟨wo.heap.size, 0, none⟩) 1 cap3)).run Tryz.prog wr = .ok (.string ⟨#[49]⟩) wr := run_convert_bytes_back (P := Tryz.prog) wr 86 9 5 ⟨wo.heap.size, 0, none⟩ cap3 [49] Tryz.underlying86 Tryz.underlying5 Tryz.underlying9 (fun j hj => by
          match j, hj with
          | 0, _ => exact hd0)
        go_wp2
        go_ret
        first | exact ⟨rfl, HB4.out⟩ | exact ⟨rfl, by rw [← hg]; exact HB4.out⟩

set_option maxHeartbeats 1000000 in
theorem ztext1 (w : World) (p : Option Addr) (n c : Nat) (xs : List Nat) (h : Sl w p n c xs) (hv : val xs = 1) (hs : n ≤ 70368744177664) :
    Calls Tryz.prog 35 #[.agg #[.bool false, .slice p n c]] w fun e w' => e = .returned (.string ⟨#[49]⟩) ∧ Below w.heap.size w w' := by
  obtain ⟨W, g, hg, hW, c10, c11, HB⟩ := enter1b w false p n c
  have SG := zsign_c W false p n c xs (h.below HB.out) hs
  rw [sign_pos (by rw [hv]; omega)] at SG
  have HS := hid SG
  have HH := hid h
  clear SG h
  go_enter Tryz.func35, Tryz.ntmps35
  go_wp2_with fail
  refine HS.out.mono ?_
  rintro e w1 ⟨rfl, hB1⟩
  replace c11 := cell_below c11 hB1
  have HF := hid (HB.out.trans (hB1.mono HB.out.size))
  have T := hid (text1 w1 p n c xs (HH.out.below HF.out) hv hs)
  clear hB1 hv
  go_wp2_with fail
  refine T.out.mono ?_
  rintro e w2 ⟨rfl, hB2⟩
  have HG := hid (HF.out.trans (hB2.mono HF.out.size))
  clear hB2
  go_wp2
  go_ret
  exact ⟨rfl, HG.out⟩
end Go.Proofs.YtdadmchlehfiiaaGreatDoor
