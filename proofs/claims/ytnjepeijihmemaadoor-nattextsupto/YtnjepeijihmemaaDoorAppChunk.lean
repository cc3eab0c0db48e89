/-
  nat.appendChunk: nine digits, with their noughts ahead.
-/
import Derived.Test.YtnjepeijihmemaaDoorBytes
import Derived.Test.YtnjepeijihmemaaDoorTextMath
import Derived.Deep.LoopGhost
namespace Go.Proofs.YtnjepeijihmemaaDoor
open Go.RowKit Nt
set_option linter.unusedSimpArgs false
set_option linter.unusedVariables false

theorem padc_set (l : List UInt8) (i c : Nat) (hi : i < 9) (b : UInt8) : (l ++ (List.replicate (9 - i) 48 ++ padL i c)).set (l.length + (8 - i)) b = l ++ (List.replicate (8 - i) 48 ++ (b :: padL i c)) := by
  rw [List.set_append_right _ _ (by omega), show l.length + (8 - i) - l.length = 8 - i from by omega]
  congr 1
  rw [show 9 - i = (8 - i) + 1 from by omega, List.replicate_succ', List.append_assoc, List.set_append_right _ _ (by simp), List.length_replicate, Nat.sub_self]
  rfl
theorem padc_get (l : List UInt8) (i c : Nat) (hi : i < 9) (h : l.length + (8 - i) < (l ++ (List.replicate (9 - i) 48 ++ padL i c)).length) : (l ++ (List.replicate (9 - i) 48 ++ padL i c))[l.length + (8 - i)] = 48 := by
  rw [List.getElem_append_right (by omega), List.getElem_append_left (by simp; omega), List.getElem_replicate]

set_option maxHeartbeats 4000000 in
theorem appendChunk_c (w : World) (base : Nat) (v : Value) (l : List UInt8) (c : Nat) (hc : c < 1000000000) (h : OwB w base v l) (hb : base ≤ w.heap.size) (hl : l.length ≤ 140737488355000) :
    Calls Tryd.prog 21 #[v, .int .u32 c] w fun e w' => ∃ v', e = .returned v' ∧ OwB w' base v' (l ++ padL 9 c) ∧ Below base w w' := by
  obtain ⟨i0, hi, hz0, hz1, hz2⟩ := info_parts infoU8
  have HOW := hid h
  clear h
  go_enter Tryd.func21, Tryd.ntmps21
  go_wp2_with (at_builtin; refine Lib.wpList_append_own_string _ rfl _ _ 41 9 rfl base 5 i0 Tryd.underlying41 Tryd.underlying9 hi hz0 hz1 hz2 _ _ _ rfl HOW.out ⟨#[48, 48, 48, 48, 48, 48, 48, 48, 48]⟩ rfl (by unfold maxLen; simp [ByteArray.size]; omega) (by simp [ByteArray.size]; omega) hb ?_)
  intro v' w1 hown hgrow hnn
  clear hnn
  have ho1 : OwB w1 base v' (l ++ (List.replicate 9 48 ++ padL 0 c)) := by
    have e1 : (l ++ (List.replicate 9 48 ++ padL 0 c)).length = l.length + 9 := by simp [padL]
    have e2 : Lib.byteCells (l ++ (List.replicate 9 48 ++ padL 0 c)) = Lib.byteCells l ++ Lib.strCells ⟨#[48, 48, 48, 48, 48, 48, 48, 48, 48]⟩ := by
      rw [Lib.byteCells_append]
      rfl
    unfold OwB
    rw [e1, e2]
    exact hown
  have hB1 : Below base w w1 := (Below.refl base w).grown hgrow hb (fun k hk => (World.ownsRow.lt HOW.out k hk).1)
  obtain ⟨g, cap, rfl, hgb, hgc, hgm, -⟩ := ho1.row (by simp)
  have e9 : (l ++ (List.replicate 9 48 ++ padL 0 c)).length = l.length + 9 := by simp [padL]
  rw [e9] at ho1 hgc ⊢
  unfold maxLen at hgm
  have HO1 := hid ho1
  have HB1 := hid hB1
  obtain ⟨n, hn⟩ : ∃ n, l.length + 9 = n := ⟨_, rfl⟩
  rw [hn] at HO1 hgc ⊢
  have hn8 : (8 : Int) < (n : Int) := by omega
  have HN := hid hn
  clear hown hgrow ho1 hB1 e9 hn
  go_wp2_with fail
  go_loopg [1, 8] 9 (fun gk s1 s8 wr => ∃ i x : Nat, 9 - i ≤ gk ∧ i ≤ 9 ∧ s8 = .int .i64 i ∧ s1 = .int .u32 x ∧ x < 4294967296 ∧ Hid (x = c / 10 ^ i ∧ OwB wr base (.slice (some ⟨g, 0, none⟩) n cap) (l ++ (List.replicate (9 - i) 48 ++ padL i c)) ∧ Below base w wr))
  case atStart => exact ⟨0, c, Nat.le_refl _, by omega, rfl, rfl, by omega, by simp, HO1.out, HB1.out⟩
  case round =>
    obtain ⟨i, x, hgk, hi9, rfl, rfl, hx, HR⟩ := hrel
    by_cases hlt : i < 9
    · obtain ⟨-, hgb2, -, -, -, hcell, hfr, hset, hbel⟩ := HR.out.2.1.at
      have hpos : l.length + (8 - i) < (l ++ (List.replicate (9 - i) 48 ++ padL i c)).length := by simp [padL_length]; omega
      have hk := hcell _ hpos
      rw [padc_get l i c hlt hpos] at hk
      have hki : l.length + (8 - i) = n - 1 - i := by have := HN.out; omega
      have hf := hfr (l.length + (8 - i))
      rw [hki] at hk hf
      have hk' : wr.cell? ⟨g, n - 1 - i, none⟩ = some (.int .u8 48) := hk
      have HSET := hid hset
      have HBEL := hid hbel
      have HKI := hid hki
      clear hcell hfr hset hbel hpos hk hki
      go_wp2_with fail
      go_roundg (9 - (i + 1))
      case measure => omega
      case rel =>
        have hb8 : (((UInt8.ofNat (48 + x % 10)).toNat : Nat) : Int) = 48 + (x : Int) % 10 := by
          rw [UInt8.toNat_ofNat']
          omega
        have hpos : l.length + (8 - i) < (l ++ (List.replicate (9 - i) 48 ++ padL i c)).length := by simp [padL_length]; omega
        have h1 := HSET.out (l.length + (8 - i)) (UInt8.ofNat (48 + x % 10)) hpos
        rw [padc_set l i c hlt, hb8, HKI.out] at h1
        refine ⟨i + 1, x / 10, Nat.le_refl _, by omega, by go_num, by go_num, by omega, ?_, ?_, HBEL.out _ _ _ _ HR.out.2.2 hgb2⟩
        · rw [HR.out.1, Nat.div_div_eq_div_mul, Nat.pow_succ]
        · rw [show 9 - (i + 1) = 8 - i from by omega, padL, ← HR.out.1]
          exact h1
    · have h9 : i = 9 := by omega
      subst h9
      have HF := hid HR.out.2
      clear HR
      go_wp2_with fail
      go_ret
      exact ⟨_, rfl, by simpa using HF.out.1, HF.out.2⟩
end Go.Proofs.YtnjepeijihmemaaDoor
