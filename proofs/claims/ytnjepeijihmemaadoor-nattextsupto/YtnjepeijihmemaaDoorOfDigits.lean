/-
  nat.ofDigits: the number of a text of nothing but digits.
-/
import Derived.Test.YtnjepeijihmemaaDoorGrow
import Derived.Test.YtnjepeijihmemaaDoorReadMath
import Derived.Laws.RangeAny
import Derived.Lib.OthersKept
namespace Go.Proofs.YtnjepeijihmemaaDoor
open Go.RowKit Nt
set_option linter.unusedSimpArgs false
set_option linter.unusedVariables false

theorem Own.iterAt {w : World} {base : Nat} {v : Value} {xs : List Nat} (h : Own w base v xs) {k : Nat} {s : ByteArray} {pos : Nat} (hk : w.heap[k]? = some (.stringIter s pos)) (pos' : Nat) : Own (w.iterAt k s pos') base v xs := by
  obtain ⟨h1, h2⟩ := h
  refine ⟨h1, ?_⟩
  rcases h2 with h2 | ⟨g, cap, cur, rfl, h4, hg, hr⟩
  · exact Or.inl h2
  · refine Or.inr ⟨g, cap, cur, rfl, h4, ?_, hr⟩
    rw [Lib.iterAt_other _ _ _ _ _ (fun e => by rw [e, hk] at hg; cases hg)]
    exact hg

/-- What ofDigits' loop keeps. -/
structure OD (w wr : World) (s : ByteArray) (pos k g n cap chunk j : Nat) (xs : List Nat) : Prop where
  own : Own wr w.heap.size (.slice (some ⟨g, 0, none⟩) n cap) xs
  ok : Ok xs
  iter : wr.heap[k]? = some (.stringIter s pos)
  apart : g ≠ k
  sum : decV (s.data.toList.take pos) = val xs * 10 ^ j + chunk
  low : chunk < 10 ^ j
  few : j < 9
  below : Below w.heap.size w wr
  len : n ≤ pos

theorem data_getD (s : ByteArray) (k : Nat) (h : k < s.size) : s.data.toList.getD k 0 = s[k]'h := by
  rw [List.getD_eq_getElem?_getD, List.getElem?_eq_getElem (by simpa using h)]
  rfl

set_option maxHeartbeats 4000000 in
theorem ofDigits_c (w : World) (s : ByteArray) (hs : s.size ≤ 65536) (hd : ∀ i, i < s.size → dig (s.data.toList.getD i 0)) :
    Calls Tryd.prog 15 #[.string s] w fun e w' => ∃ r cr, e = .returned (.slice r (digs (decV s.data.toList)).length cr) ∧ Ans w w' r cr (decV s.data.toList) := by
  have HD := hid hd
  clear hd
  go_enter Tryd.func15, Tryd.ntmps15
  go_wp2_with fail
  obtain ⟨W0, hW0⟩ : ∃ W, W = w.alloc (.cells #[] 39) := ⟨_, rfl⟩
  have hB0 : Below w.heap.size w W0 := by rw [hW0]; exact (Below.refl _ _).alloc (Nat.le_refl _) _
  have hG0 : W0.heap[w.heap.size]? = some (.cells #[] 39) := by rw [hW0]; exact heap_alloc_last _ _
  have hS0 : W0.heap.size = w.heap.size + 1 := by rw [hW0]; simp
  rw [← hW0]
  obtain ⟨k, hk⟩ : ∃ k, k = w.heap.size + 1 := ⟨_, rfl⟩
  obtain ⟨W1, hW1⟩ : ∃ W, W = W0.iter s 0 := ⟨_, rfl⟩
  have hI1 : W1.heap[k]? = some (.stringIter s 0) := by rw [hW1, hk, ← hS0]; exact World.iter_heap W0 s 0
  have hB1 : Below w.heap.size w W1 := by rw [hW1]; exact hB0.alloc (by omega) _
  have hG1 : W1.heap[w.heap.size]? = some (.cells #[] 39) := by rw [hW1, show (W0.iter s 0).heap[w.heap.size]? = W0.heap[w.heap.size]? from heap_alloc_old' W0 _ _ (by omega)]; exact hG0
  rw [← hW1, ← hk]
  obtain ⟨g0, hg0⟩ : ∃ g, g = w.heap.size := ⟨_, rfl⟩
  have OD0 : Hid (OD w W1 s 0 k g0 0 0 0 0 []) := by
    refine ⟨⟨rfl, Or.inr ⟨g0, 0, #[], rfl, by omega, by rw [hg0]; exact hG1, Nat.le_refl _, by unfold maxLen; omega, rfl, rfl⟩⟩, Ok.nil, hI1, by omega, rfl, by omega, by omega, hB1, Nat.le_refl _⟩
  rw [← hg0]
  have HK := hid (show w.heap.size < k by omega)
  clear hW0 hB0 hG0 hS0 hk hW1 hI1 hB1 hG1 hg0
  go_loopg [3, 4, 5] s.size (fun gk s3 s4 s5 wr => ∃ (pos g n cap chunk j : Nat) (xs : List Nat), s.size - pos ≤ gk ∧ pos ≤ s.size ∧ n ≤ pos ∧ chunk < 1000000000 ∧ j < 9 ∧ chunk < 10 ^ j ∧ s3 = .slice (some ⟨g, 0, none⟩) n cap ∧ s4 = .int .u32 chunk ∧ s5 = .int .u32 (10 ^ j : Nat) ∧ Hid (OD w wr s pos k g n cap chunk j xs))
  case atStart => exact ⟨0, g0, 0, 0, 0, 0, [], Nat.sub_le _ _, Nat.zero_le _, Nat.le_refl _, by omega, by omega, by omega, rfl, rfl, rfl, OD0.out⟩
  case round =>
    obtain ⟨pos, g, n, cap, chunk, j, xs, hgk, hpos, hn, hch, hj, hcj, rfl, rfl, rfl, HR⟩ := hrel
    obtain ⟨P, hP⟩ : ∃ P, 10 ^ j = P := ⟨_, rfl⟩
    have hPb : P ≤ 100000000 := by
      rw [← hP]
      have : 10 ^ j ≤ 10 ^ 8 := Nat.pow_le_pow_right (by omega) (by omega)
      omega
    rw [hP] at hcj ⊢
    have HP := hid hP
    clear hP
    by_cases hlt : pos < s.size
    · have hdg := HD.out pos hlt
      rw [data_getD s pos hlt] at hdg
      obtain ⟨d, hd⟩ : ∃ d, (s[pos]'hlt).toNat = d := ⟨_, rfl⟩
      unfold dig at hdg
      have hnx : ∀ ty, (Instr.next (.pointer (some ⟨k, 0, none⟩)) true ty).run Tryd.prog wr = .ok (.tuple #[.bool true, .int .i64 pos, .int .i32 d]) (wr.iterAt k s (pos + 1)) := by
        intro ty
        rw [← hd]
        exact Lib.run_next_ascii_at wr k s pos ty HR.out.iter hlt (by omega)
      rw [hd] at hdg
      have hd1 : 48 ≤ d := hdg.1
      have hd2 : d ≤ 57 := hdg.2
      have HDD := hid hd
      clear hdg hd
      by_cases hj8 : j = 8
      · have hP8 : P = 100000000 := by rw [← HP.out, hj8]
        subst hP8
        have GR := hid (grow_c (wr.iterAt k s (pos + 1)) w.heap.size g n cap xs 1000000000 (chunk * 10 + (d - 48)) (HR.out.own.iterAt HR.out.iter _) HR.out.ok (by rw [Lib.iterAt_size]; exact HR.out.below.size) (by omega) (by omega) (by omega))
        have hcv : (chunk : Int) * 10 + ((d : Int) - 48) = ((chunk * 10 + (d - 48) : Nat) : Int) := by omega
        rw [← hcv] at GR
        clear hcv
        go_wp2_with fail
        refine GR.out.mono ?_
        rintro e W2 ⟨g', n', cap', xs', rfl, o1, o2, o3, o4, o5, o6, o7⟩
        have HO := hid (And.intro o1 (And.intro o2 (And.intro o3 (And.intro o5 (And.intro o6 o7)))))
        clear o1 o2 o3 o5 o6 o7 GR
        go_wp2_with fail
        go_roundg (s.size - (pos + 1))
        case measure => omega
        case rel =>
          obtain ⟨o1, o2, o3, o5, o6, o7⟩ := HO.out
          have hks : k < (wr.iterAt k s (pos + 1)).heap.size := by rw [Lib.iterAt_size]; exact (Array.getElem?_eq_some_iff.1 HR.out.iter).1
          refine ⟨pos + 1, g', n', cap', 0, 0, xs', Nat.le_refl _, by omega, by omega, by omega, by omega, by omega, rfl, rfl, rfl, o1, o2, ?_, ?_, ?_, by omega, by omega, ?_, by omega⟩
          · rw [o5 k hks (Ne.symm HR.out.apart)]
            exact Lib.iterAt_heap wr k s pos _ HR.out.iter
          · rcases o6 with e | e
            · rw [e]; exact HR.out.apart
            · omega
          · rw [take_snocB _ _ (by simpa using hlt), decV_snoc, data_getD s pos hlt, HDD.out, HR.out.sum, o3, hj8]
            omega
          · have e1 := Lib.below_iterAt HR.out.below (k := k) (Nat.le_of_lt HK.out) s (pos + 1)
            exact ⟨o7.os.trans e1.os, o7.tape.trans e1.tape, o7.output.trans e1.output, Nat.le_trans e1.size o7.size, fun i hi => (o7.block i hi).trans (e1.block i hi)⟩
      · have hPn : P * 10 ≤ 100000000 := by
          rw [← HP.out, ← Nat.pow_succ]
          have : 10 ^ (j + 1) ≤ 10 ^ 8 := Nat.pow_le_pow_right (by omega) (by omega)
          omega
        have hPe : ((P : Int) * 10 == 1000000000) = false := beq_eq_false_iff_ne.2 (by omega)
        go_wp2_with fail
        go_roundg (s.size - (pos + 1))
        case measure => omega
        case rel =>
          have hP1 : 10 ^ (j + 1) = P * 10 := by rw [Nat.pow_succ, HP.out]
          refine ⟨pos + 1, g, n, cap, chunk * 10 + (d - 48), j + 1, xs, Nat.le_refl _, by omega, by omega, by omega, by omega, by rw [hP1]; omega, rfl, ?_, ?_, HR.out.own.iterAt HR.out.iter _, HR.out.ok, Lib.iterAt_heap wr k s pos _ HR.out.iter, HR.out.apart, ?_, by rw [hP1]; omega, by omega, Lib.below_iterAt HR.out.below (Nat.le_of_lt HK.out) s _, by omega⟩
          · simp only [Value.int.injEq, true_and]; omega
          · rw [hP1]; simp
          · rw [take_snocB _ _ (by simpa using hlt), decV_snoc, data_getD s pos hlt, HDD.out, HR.out.sum, Nat.pow_succ, Nat.add_mul, Nat.mul_assoc]
            omega
    · have hps : pos = s.size := by omega
      have hnx : ∀ ty, (Instr.next (.pointer (some ⟨k, 0, none⟩)) true ty).run Tryd.prog wr = .ok (.tuple #[.bool false]) wr := fun ty => Lib.run_next_end_at wr k s pos ty HR.out.iter hlt
      have GR := hid (grow_c wr w.heap.size g n cap xs P chunk HR.out.own HR.out.ok HR.out.below.size (by omega) (by omega) (by omega))
      have hsum : decV s.data.toList = val xs * P + chunk := by
        have := HR.out.sum
        rw [hps, HP.out, List.take_of_length_le (by simp)] at this
        exact this
      have HSUM := hid hsum
      have HB := hid HR.out.below
      clear hps hsum HR
      go_wp2_with fail
      refine GR.out.mono ?_
      rintro e W2 ⟨g', n', cap', xs', rfl, o1, o2, o3, o4, o5, o6, o7⟩
      rw [← HSUM.out] at o3
      have hbg := o1.at.2.1
      obtain ⟨p2, c2, e2, S2⟩ := o1.sl o2
      simp only [Value.slice.injEq] at e2
      obtain ⟨rfl, rfl, rfl⟩ := e2
      have TR := hid (trim_s W2 (some ⟨g', 0, none⟩) xs'.length cap' (digs (decV s.data.toList)).length xs' (by rw [o3]) S2)
      have HA : Hid (Ans w W2 (some ⟨g', 0, none⟩) cap' (decV s.data.toList)) := by
        refine ⟨⟨o7.os.trans HB.out.os, o7.tape.trans HB.out.tape, o7.output.trans HB.out.output, Nat.le_trans HB.out.size o7.size, fun i hi => (o7.block i hi).trans (HB.out.block i hi)⟩, ?_, fun b o e => ?_⟩
        · have := S2.digs
          rw [o3] at this
          exact this
        · simp only [Option.some.injEq, Addr.mk.injEq] at e
          omega
      clear o1 o2 o3 o4 o5 o6 o7 S2 GR
      go_wp2_with fail
      refine TR.out.mono ?_
      rintro e W3 ⟨rfl, rfl⟩
      go_wp2_with fail
      go_ret
      exact ⟨_, _, rfl, HA.out⟩
end Go.Proofs.YtnjepeijihmemaaDoor
