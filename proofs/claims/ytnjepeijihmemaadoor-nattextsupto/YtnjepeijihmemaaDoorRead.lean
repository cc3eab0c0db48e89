/-
  nat.Read, whole.
-/
import Derived.Test.YtnjepeijihmemaaDoorOfDigits
namespace Go.Proofs.YtnjepeijihmemaaDoor
open Go.RowKit Nt
set_option linter.unusedSimpArgs false
set_option linter.unusedVariables false

theorem read_long (w : World) (s : ByteArray) (h : 65536 < s.size) (h2 : s.size ≤ 9223372036854775807) :
    Calls Tryd.prog 5 #[.string s] w fun e w' => e = .returned (.tuple #[.slice none 0 0, .int .i64 0, .int .i64 2]) ∧ w' = w := by
  go_enter Tryd.func5, Tryd.ntmps5
  go_wp2_with fail
  go_ret3
  exact ⟨rfl, rfl⟩
theorem read_empty (w : World) : Calls Tryd.prog 5 #[.string ⟨#[]⟩] w fun e w' => e = .returned (.tuple #[.slice none 0 0, .int .i64 0, .int .i64 4]) ∧ w' = w := by
  have h0 : (⟨#[]⟩ : ByteArray).size = 0 := rfl
  go_enter Tryd.func5, Tryd.ntmps5
  go_wp2_with fail
  go_ret3
  exact ⟨rfl, rfl⟩

/-- What a step of the range tells of the byte at hand. -/
theorem next_fact (w : World) (k : Nat) (s : ByteArray) (pos : Nat) (hk : w.heap[k]? = some (.stringIter s pos)) (h : pos < s.size) :
    ∃ r m : Nat, (∀ ty, (Instr.next (.pointer (some ⟨k, 0, none⟩)) true ty).run Tryd.prog w = .ok (.tuple #[.bool true, .int .i64 pos, .int .i32 r]) (w.iterAt k s (pos + m))) ∧ r ≤ 2147483647 ∧ (dig (s.data.toList.getD pos 0) → 48 ≤ r ∧ r ≤ 57 ∧ m = 1) ∧ (¬ dig (s.data.toList.getD pos 0) → r < 48 ∨ 57 < r) := by
  rw [data_getD s pos h]
  by_cases ha : (s[pos]'h).toNat < 128
  · refine ⟨(s[pos]'h).toNat, 1, fun ty => Lib.run_next_ascii_at w k s pos ty hk h ha, by omega, fun hd => ⟨hd.1, hd.2, rfl⟩, fun hd => ?_⟩
    unfold dig at hd
    omega
  · have hh := decode_high s pos h (by omega)
    refine ⟨(Utf8.decode s pos).1, (Utf8.decode s pos).2, fun ty => Lib.run_next_any_at w k s pos ty hk h, decode_le s pos, fun hd => ?_, fun _ => by omega⟩
    unfold dig at hd
    omega

set_option maxHeartbeats 4000000 in
theorem read_c (w : World) (s : ByteArray) (h0 : 0 < s.size) (hs : s.size ≤ 65536) :
    Calls Tryd.prog 5 #[.string s] w fun e w' => (∃ i : Nat, i < s.size ∧ bad s.data.toList i ∧ (∀ j, j < i → ¬ bad s.data.toList j) ∧ e = .returned (.tuple #[.slice none 0 0, .int .i64 i, .int .i64 4]) ∧ Below w.heap.size w w') ∨
      ((∀ j, j < s.size → ¬ bad s.data.toList j) ∧ ∃ r cr, e = .returned (.tuple #[.slice r (digs (decV s.data.toList)).length cr, .int .i64 0, .int .i64 0]) ∧ Ans w w' r cr (decV s.data.toList)) := by
  have hne : s.toList.isEmpty = false := by
    rw [ByteArray.toList_eq]
    cases hl : s.data.toList with
    | nil =>
      have : s.data.toList.length = s.size := by simp
      rw [hl] at this
      simp at this
      omega
    | cons a r => rfl
  go_enter Tryd.func5, Tryd.ntmps5
  go_wp2_with fail
  obtain ⟨k, hk⟩ : ∃ k, k = w.heap.size := ⟨_, rfl⟩
  obtain ⟨W1, hW1⟩ : ∃ W, W = w.iter s 0 := ⟨_, rfl⟩
  have hI1 : Hid (W1.heap[k]? = some (.stringIter s 0)) := by rw [hW1, hk]; exact World.iter_heap w s 0
  have hB1 : Hid (Below w.heap.size w W1) := by rw [hW1]; exact (Below.refl _ _).alloc (Nat.le_refl _) _
  rw [← hW1, ← hk]
  have HK := hid (show w.heap.size ≤ k by omega)
  clear hW1 hk
  go_loopg [5] s.size (fun gk s5 wr => ∃ pos : Nat, s.size - pos ≤ gk ∧ pos ≤ s.size ∧ Hid (wr.heap[k]? = some (.stringIter s pos) ∧ Below w.heap.size w wr ∧ ∀ j, j < pos → ¬ bad s.data.toList j))
  case atStart => exact ⟨0, Nat.sub_le _ _, Nat.zero_le _, hI1.out, hB1.out, fun j hj => by omega⟩
  case round =>
    obtain ⟨pos, hgk, hpos, HR⟩ := hrel
    by_cases hlt : pos < s.size
    · obtain ⟨r, m, hnx, hr, hyes, hno⟩ := next_fact wr k s pos HR.out.1 hlt
      have HF := hid (And.intro HR.out (Lib.below_iterAt HR.out.2.1 HK.out s (pos + m)))
      obtain ⟨b0, hb0⟩ : ∃ b, (s[0]'h0).toNat = b := ⟨_, rfl⟩
      have HB0 := hid (show s.data.toList.getD 0 0 = 48 ↔ b0 = 48 from by
        rw [data_getD s 0 h0, ← hb0]
        constructor
        · intro e; rw [e]; rfl
        · intro e; exact UInt8.toNat_inj.1 e)
      by_cases hdg : dig (s.data.toList.getD pos 0)
      · obtain ⟨r1, r2, rfl⟩ := hyes hdg
        have HDG := hid hdg
        clear hyes hno hdg
        by_cases hp0 : pos = 0
        · subst hp0
          go_wp2_with fail
          go_roundg (s.size - 1)
          case measure => omega
          case rel => exact ⟨1, Nat.le_refl _, by omega, Lib.iterAt_heap wr k s 0 _ HF.out.1.1, HF.out.2, fun j hj => by
            obtain rfl : j = 0 := by omega
            rintro (h | ⟨h, _⟩)
            · exact h HDG.out
            · omega⟩
        · have hp1 : 0 < pos := by omega
          clear hp0
          by_cases hz : b0 = 48
          · have hbz : (s[0]'h0).toNat = 48 := by omega
            have HBAD : Hid (bad s.data.toList pos) := Or.inr ⟨hp1, HB0.out.2 hz⟩
            go_wp2_with fail
            go_ret3
            exact Or.inl ⟨pos, hlt, HBAD.out, HF.out.1.2.2, rfl, HF.out.2⟩
          · have hbz : (((s[0]'h0).toNat : Int) == 48) = false := beq_eq_false_iff_ne.2 (by omega)
            have HGD : Hid (¬ bad s.data.toList pos) := by
              rintro (h | ⟨_, h⟩)
              · exact h HDG.out
              · exact hz (HB0.out.1 h)
            clear hb0
            go_wp2_with fail
            go_roundg (s.size - (pos + 1))
            case measure => omega
            case rel => exact ⟨pos + 1, Nat.le_refl _, by omega, Lib.iterAt_heap wr k s pos _ HF.out.1.1, HF.out.2, fun j hj => by
              rcases Nat.lt_or_ge j pos with h | h
              · exact HF.out.1.2.2 j h
              · obtain rfl : j = pos := by omega
                exact HGD.out⟩
      · have HBAD : Hid (bad s.data.toList pos) := Or.inl hdg
        rcases hno hdg with h | h
        · clear hyes hno hdg hb0
          go_wp2_with fail
          go_ret3
          exact Or.inl ⟨pos, hlt, HBAD.out, HF.out.1.2.2, rfl, HF.out.2⟩
        · have h48 : ¬ (r : Int) < 48 := by omega
          clear hyes hno hdg hb0
          go_wp2_with fail
          go_ret3
          exact Or.inl ⟨pos, hlt, HBAD.out, HF.out.1.2.2, rfl, HF.out.2⟩
    · have hps : pos = s.size := by omega
      have hnx : ∀ ty, (Instr.next (.pointer (some ⟨k, 0, none⟩)) true ty).run Tryd.prog wr = .ok (.tuple #[.bool false]) wr := fun ty => Lib.run_next_end_at wr k s pos ty HR.out.1 hlt
      have HG : Hid (∀ j, j < s.size → ¬ bad s.data.toList j) := by
        have := HR.out.2.2
        rw [hps] at this
        exact this
      have HB := hid HR.out.2.1
      have OD := hid (ofDigits_c wr s hs (fun i hi => by
        apply Classical.byContradiction
        intro hc
        exact HG.out i hi (Or.inl hc)))
      clear hps HR
      go_wp2_with fail
      refine OD.out.mono ?_
      rintro e W2 ⟨r, cr, rfl, A2⟩
      have HA := hid (A2.since HB.out)
      clear A2
      go_wp2_with fail
      go_ret3
      exact Or.inr ⟨HG.out, r, cr, rfl, HA.out⟩
end Go.Proofs.YtnjepeijihmemaaDoor
