/-
  nat.Text, whole: the decimal digits.
-/
import Derived.Test.YtnjepeijihmemaaDoorAppChunk
import Derived.Test.YtnjepeijihmemaaDoorDivSmall
import Derived.Test.YtnjepeijihmemaaDoorCalc
import Derived.Test.YtnjepeijihmemaaDoorRewritten
import Derived.Test.YtnjepeijihmemaaDoorRefA
import Derived.Test.YtnjepeijihmemaaDoorShelf
import Derived.Lib.LaidTab
import Derived.Lib.ItoaLen
namespace Go.Proofs.YtnjepeijihmemaaDoor
open Go.RowKit Nt
set_option linter.unusedSimpArgs false
set_option linter.unusedVariables false

/-- The library's table of powers of ten lies where the program lays it. -/
def Tab (w : World) : Prop := Lib.TabIs Tryd.prog w "internal/strconv.uint64pow10" .u64 Lib.pow10Tab
theorem Tab.below {w w' : World} (h : Tab w) (hb : Below w.heap.size w w') : Tab w' := by
  unfold Tab Lib.TabIs World.var? at *
  cases hg : Tryd.prog.globalNamed "internal/strconv.uint64pow10" with
  | none => rw [hg] at h; cases h
  | some g =>
    rw [hg] at h
    simp only [Option.bind_some] at h ⊢
    cases hw : w.heap[g]? with
    | none => rw [hw] at h; cases h
    | some o =>
      rw [hb.block g (Array.getElem?_eq_some_iff.1 hw).1]
      exact h

theorem iappendUint_c (w : World) (u : Nat) (hu : u < 18446744073709551616) (ht : Tab w) :
    Calls Tryd.prog 31 #[.slice none 0 0, .int .u64 u, .int .i64 10] w fun e w' => ∃ v', e = .returned v' ∧ OwB w' w.heap.size v' (Lib.decDigits u) ∧ Below w.heap.size w w' := by
  refine (Tryd.internal_strconv_AppendUint_10 w.heap.size 0 u hu (.slice none 0 0) [] w (World.ownsRow_nil _ _ _ _) (Nat.le_refl _) (by omega) ht).mono ?_
  rintro e w' ⟨v', rfl, h1, h2, _⟩
  refine ⟨v', rfl, ?_, h2⟩
  unfold OwB
  rw [Nat.zero_add, List.nil_append] at h1
  exact h1
theorem appendUint_c (w : World) (u : Nat) (hu : u < 18446744073709551616) (ht : Tab w) :
    Calls Tryd.prog 20 #[.slice none 0 0, .int .u64 u, .int .i64 10] w fun e w' => ∃ v', e = .returned v' ∧ OwB w' w.heap.size v' (Lib.decDigits u) ∧ Below w.heap.size w w' := by
  have S := hid (iappendUint_c w u hu ht)
  clear ht
  go_enter Tryd.func20, Tryd.ntmps20
  go_wp2_with fail
  refine S.out.mono ?_
  rintro e w' ⟨v', rfl, h1, h2⟩
  go_wp2
  go_ret
  exact ⟨v', rfl, h1, h2⟩

theorem append_u32_at {ops : Array Oper} {rest : List Oper} {o : Oper} {a : Act} {Q : Exit → Act → World → Prop} (w : World) (hgd : o.guard = none) (s x : Operand)
    (ho : o.op = .call { callee := .builtin .append, args := #[s, x], argTypes := #[22, 22] })
    (base : Nat) (v : Value) (xs : List Nat) (hs : a.eval s = v) (hown : Own w base v xs)
    (ad : Addr) (m c : Nat) (news : List Nat) (hx : a.eval x = .slice (some ad) m c) (hl : news.length = m) (hnews : Limbs w (some ad) news)
    (hb : xs.length + m ≤ 35184372088832) (hbase : base ≤ w.heap.size)
    (h : ∀ v' w', Own w' base v' (xs ++ news) → Below base w w' → (∀ k, k < w.heap.size → v.ownBlock ≠ some k → w'.heap[k]? = w.heap[k]?) → (v'.ownBlock = v.ownBlock ∨ v'.ownBlock = some w.heap.size) → wpList Tryd.prog ops Q rest (a.put o.dst v') w') : wpList Tryd.prog ops Q (o :: rest) a w := by
  obtain ⟨i0, hi, hz0, hz1, hz2⟩ := info_parts infoU32
  refine wpList_append_own_at w hgd s x 22 ho base 39 i0 (.int .u32 0) 1 4 Tryd.underlying22 hi hz0 hz1 hz2 rfl (by decide) v xs.length (U xs) hs hown ad m c (U news) hx (by simp [U, hl]) ?_ (oneCell_U news) (by unfold maxLen; omega) (by omega) hbase ?_
  · intro j u hj
    have hj' : j < news.length := by
      have := (List.getElem?_eq_some_iff.1 hj).1
      simpa [U] using this
    rw [U_get news j hj'] at hj
    obtain ⟨b, o', e, hc⟩ := hnews j hj'
    obtain rfl := Option.some.inj e
    rw [← hj, ← hc]
    rw [addr_add]
  · intro v' w' h1 h2 _ h4
    refine h v' w' ?_ ?_ (fun k hk hne => h2.block k hk (fun e => hne e.symm)) h4
    · unfold Own
      rw [U_append, List.length_append, hl]
      exact h1
    · exact (Below.refl base w).grown h2 hbase (fun k hk => (World.ownsRow.lt hown k hk).1)

theorem Own.other {w w' : World} {base : Nat} {v : Value} {xs : List Nat} (h : Own w base v xs) (hk : ∀ k, v.ownBlock = some k → w'.heap[k]? = w.heap[k]?) : Own w' base v xs := by
  obtain ⟨h1, h2⟩ := h
  refine ⟨h1, ?_⟩
  rcases h2 with h2 | ⟨g, cap, cur, rfl, h4, hg, hr⟩
  · exact Or.inl h2
  · exact Or.inr ⟨g, cap, cur, rfl, h4, (hk g rfl).trans hg, hr⟩

/-- What the loop of chunks keeps. -/
structure TX (w wr : World) (A R : Nat) (C : List Nat) (ch : Value) (r : Option Addr) (cr : Nat) : Prop where
  own : Own wr w.heap.size ch C
  ok : ∀ c ∈ C, c < 1000000000
  res : Res w wr r cr R
  sum : A = valC C + 1000000000 ^ C.length * R
  apart : ∀ b o, r = some ⟨b, o, none⟩ → ch.ownBlock ≠ some b
  top : R = 0 → ∀ h : C ≠ [], C.getLast h ≠ 0

theorem TX.okC {w wr : World} {A R : Nat} {C : List Nat} {ch : Value} {r : Option Addr} {cr : Nat} (h : TX w wr A R C ch r cr) : Ok C := fun c hc => by have := h.ok c hc; omega

/-- A round of the loop. -/
theorem TX.next {w wr w1 w2 w3 : World} {A R : Nat} {C Z rest : List Nat} {ch ch' : Value} {b cr : Nat} (h : TX w wr A R C ch (some ⟨b, 0, none⟩) cr) (hR : R ≠ 0)
    (hgb : w.heap.size ≤ b) (hblk : Blk wr b (digs R ++ rest)) (hor : Ok rest) (hcr : cr = (digs R).length + rest.length) (hcm : cr ≤ maxLen)
    (hZl : Z.length = (digs R).length) (hZo : Ok Z) (hZv : val Z = R / 1000000000) (hw : Wr wr b (Z ++ rest) w1) (h2 : Below w1.heap.size w1 w2)
    (hown : Own w3 w.heap.size ch' (C ++ [R % 1000000000])) (hbel : Below w.heap.size w2 w3) (hoth : ∀ k, k < w2.heap.size → ch.ownBlock ≠ some k → w3.heap[k]? = w2.heap[k]?) (hat : ch'.ownBlock = ch.ownBlock ∨ ch'.ownBlock = some w2.heap.size) :
    TX w w3 A (R / 1000000000) (C ++ [R % 1000000000]) ch' (some ⟨b, 0, none⟩) cr ∧ Sl w3 (some ⟨b, 0, none⟩) (digs R).length cr Z := by
  have hb2 : b < w1.heap.size := by rw [hw.size]; exact (Array.getElem?_eq_some_iff.1 hblk).1
  have hblk1 := Wr.blk hblk hw
  have hblk3 : Blk w3 b (Z ++ rest) := by
    unfold Blk at *
    rw [hoth b (Nat.lt_of_lt_of_le hb2 h2.size) (h.apart b 0 rfl), h2.block b hb2]
    exact hblk1
  have hbel3 : Below w.heap.size w w3 := by
    have e1 := hw.below h.res.below hgb
    have e2 := e1.trans (h2.mono e1.size)
    exact ⟨hbel.os.trans e2.os, hbel.tape.trans e2.tape, hbel.output.trans e2.output, Nat.le_trans e2.size hbel.size, fun k hk => (hbel.block k hk).trans (e2.block k hk)⟩
  refine ⟨⟨hown, ?_, ?_, ?_, ?_, ?_⟩, ?_⟩
  · intro c hc
    rcases List.mem_append.1 hc with hc | hc
    · exact h.ok c hc
    · simp at hc; omega
  · have hsp := Res.rewritten (w := w) (W := w3) (W' := w3) (g := b) (c := cr) (D := Z) (rest := rest) (Z := Z) (A := R / 1000000000) hbel3 hblk3 hgb (by omega) hcm hor rfl hZo hZv (Wr.refl hblk3)
    exact hsp
  · rw [valC_snoc, List.length_append, List.length_singleton, Nat.pow_succ]
    exact chunk_step h.sum
  · intro b' o' e
    simp only [Option.some.injEq, Addr.mk.injEq] at e
    obtain ⟨rfl, rfl, _⟩ := e
    rcases hat with e | e
    · rw [e]; exact h.apart b 0 rfl
    · rw [e]
      intro e'
      have := Option.some.inj e'
      have := h2.size
      omega
  · intro hz _
    have eL : (C ++ [R % 1000000000]).getLast (by simp) = R % 1000000000 := by simp
    rw [eL]
    intro hm
    have := Nat.div_add_mod R 1000000000
    rw [hz, hm] at this
    omega
  · refine ⟨hZl, by omega, hcm, (fun e => by cases e), hZo, ?_⟩
    have := hblk3.limbs.take Z.length
    rwa [List.take_left] at this

/-- The two loops' ends: the top chunk, then one after the other. -/
theorem drop_last {C : List Nat} (h : C ≠ []) (ht : C.getLast h ≠ 0) : valC (C.drop (C.length - 1)) = C.getD (C.length - 1) 0 ∧ C.getD (C.length - 1) 0 ≠ 0 := by
  have hl : 0 < C.length := List.length_pos_iff.2 h
  have e : C.getD (C.length - 1) 0 = C.getLast h := by
    rw [List.getLast_eq_getElem, List.getD_eq_getElem?_getD, List.getElem?_eq_getElem (by omega)]
    rfl
  refine ⟨?_, by rw [e]; exact ht⟩
  rw [valC_drop (by omega), List.drop_of_length_le (by omega), valC]
  omega

set_option maxRecDepth 20000 in
set_option maxHeartbeats 4000000 in
theorem text_c (w : World) (p : Option Addr) (n c : Nat) (xs : List Nat) (h : Sl w p n c xs) (hs : n ≤ 1048577) (ht : Tab w) :
    Calls Tryd.prog 7 #[.slice p n c] w fun e w' => e = .returned (.string ⟨(Lib.decDigits (val xs)).toArray⟩) ∧ Below w.heap.size w w' := by
  obtain ⟨A, hA⟩ : ∃ A, val xs = A := ⟨_, rfl⟩
  have hdl := h.dl
  rw [hA] at hdl ⊢
  have hA2 : A < 2 ^ (32 * n) := by
    have h1 := lt_pow_digs A
    have h2 : (4294967296 : Nat) ^ (digs A).length ≤ 4294967296 ^ n := Nat.pow_le_pow_right (by omega) hdl
    have h3 : (4294967296 : Nat) ^ n = 2 ^ (32 * n) := by rw [Nat.pow_mul]
    omega
  have HA2 := hid hA2
  have HT := hid ht
  have HN := hid (fun (W : World) (hW : Below w.heap.size w W) => norm_n W p n c A ((h.below hW).num.cast hA) 1048577 hs (by omega))
  clear h hA hdl hA2 ht
  go_enter Tryd.func7, Tryd.ntmps7
  go_wp2_with fail
  obtain ⟨W0, hW0⟩ : ∃ W, W = w.alloc (.cells #[] 39) := ⟨_, rfl⟩
  have hB0 : Below w.heap.size w W0 := by rw [hW0]; exact (Below.refl _ _).alloc (Nat.le_refl _) _
  have hG0 : W0.heap[w.heap.size]? = some (.cells #[] 39) := by rw [hW0]; exact heap_alloc_last _ _
  have hS0 : W0.heap.size = w.heap.size + 1 := by rw [hW0]; simp
  rw [← hW0]
  refine (HN.out W0 hB0).mono ?_
  rintro e W1 ⟨r, cr, rfl, R1, _⟩
  have TX0 : Hid (TX w W1 A A [] (.slice (some ⟨w.heap.size, 0, none⟩) 0 0) r cr) := by
    refine ⟨⟨rfl, Or.inr ⟨w.heap.size, 0, #[], rfl, Nat.le_refl _, ?_, Nat.le_refl _, by unfold maxLen; omega, rfl, rfl⟩⟩, (fun c hc => by cases hc), R1.since hB0, (by simp [valC]), ?_, fun _ h => absurd rfl h⟩
    · rw [R1.below.block _ (by omega)]; exact hG0
    · intro b o e
      have := (R1.own b o e).2.1
      intro e'
      simp [Value.ownBlock] at e'
      omega
  obtain ⟨g0, hg0⟩ : ∃ g, g = w.heap.size := ⟨_, rfl⟩
  rw [← hg0] at TX0 ⊢
  clear hW0 hB0 hG0 hS0 R1 HN
  have HG0 := hid hg0
  clear hg0
  go_wp2_with fail
  go_loopg [3, 4] A (fun gk s3 s4 wr => ∃ (R : Nat) (C : List Nat) (r : Option Addr) (cr : Nat), R ≤ gk ∧ C.length ≤ 32 * n ∧ s4 = .slice r (digs R).length cr ∧ Hid (TX w wr A R C s3 r cr))
  case atStart => exact ⟨A, [], r, cr, Nat.le_refl _, Nat.zero_le _, rfl, TX0.out⟩
  case round =>
    obtain ⟨R, C, r, cr, hgk, hCn, rfl, HR⟩ := hrel
    obtain ⟨ch, hch⟩ : ∃ v, v = u3 := ⟨_, rfl⟩
    rw [← hch] at HR ⊢
    clear hch
    clear TX0
    by_cases hR : R = 0
    · subst hR
      obtain ⟨wo, rfl⟩ : ∃ wo : World, wo = wr := ⟨_, rfl⟩
      have hz : (digs 0).length = 0 := rfl
      have hAC : A = valC C := by have := HR.out.sum; rw [Nat.mul_zero, Nat.add_zero] at this; exact this
      obtain ⟨pc, cc, rfl, hSC⟩ := HR.out.own.sl HR.out.okC
      by_cases hC : C = []
      · subst hC
        have hA0 : A = 0 := by rw [hAC]; rfl
        have HB := hid HR.out.res.below
        clear HR hAC hSC
        go_wp2_with fail
        go_ret
        refine ⟨?_, HB.out⟩
        rw [hA0, Lib.decDigits_one (by omega)]
        rfl
      · have hl0 : 0 < C.length := List.length_pos_iff.2 hC
        obtain ⟨hd1, hd2⟩ := drop_last hC (HR.out.top rfl hC)
        obtain ⟨m, hm⟩ : ∃ m, C.length = m + 1 := ⟨C.length - 1, by omega⟩
        rw [hm, Nat.add_sub_cancel] at hd1 hd2
        have hmb : m + 1 ≤ 33554464 := by omega
        have hcm := hSC.max
        have hcc := hSC.cap
        rw [hm] at hSC hcc ⊢
        unfold maxLen at hcm
        obtain ⟨bc, oc, rfl, hcell⟩ := hSC.lie m (by omega)
        obtain ⟨x, hx⟩ : ∃ x, C.getD m 0 = x := ⟨_, rfl⟩
        rw [hx] at hcell hd1 hd2
        have hxb : x < 1000000000 := by
          rw [← hx, List.getD_eq_getElem?_getD, List.getElem?_eq_getElem (by omega)]
          exact HR.out.ok _ (List.getElem_mem _)
        have AU := hid (appendUint_c wo x (by omega) (HT.out.below HR.out.res.below))
        have HD := hid (And.intro hd1 hd2)
        have HSC := hid hSC
        have HCM := hid hm
        have HAC := hid hAC
        have HB := hid HR.out.res.below
        have HOK := hid HR.out.ok
        clear hd1 hd2 hx hm hAC HR hC hSC hl0
        go_wp2_with fail
        refine AU.out.mono ?_
        rintro e W2 ⟨v2, rfl, ho2, hb2⟩
        have HO2 := hid ho2
        have HB2 := hid hb2
        clear ho2 hb2 AU hcell
        go_wp2_with fail
        go_loopg [6, 34] m (fun gk s6 s34 wr => ∃ k : Nat, m - k ≤ gk ∧ k ≤ m ∧ s34 = .int .i64 k ∧ Hid (OwB wr wo.heap.size s6 (Lib.decDigits (valC (C.drop (m - k)))) ∧ Below wo.heap.size wo wr ∧ 0 < valC (C.drop (m - k)) ∧ (Lib.decDigits (valC (C.drop (m - k)))).length ≤ 20 + 9 * k))
        case atStart =>
          refine ⟨0, Nat.sub_le _ _, Nat.zero_le _, rfl, ?_, HB2.out, ?_, ?_⟩
          · rw [Nat.sub_zero, HD.out.1]; exact HO2.out
          · rw [Nat.sub_zero, HD.out.1]; have := HD.out.2; omega
          · rw [Nat.sub_zero, HD.out.1, Lib.decDigits_length]; exact Lib.nDigits_le20 _ (by omega)
        case round =>
          obtain ⟨k, hgk2, hk, rfl, HK⟩ := hrel
          obtain ⟨out, hout⟩ : ∃ v, v = u6 := ⟨_, rfl⟩
          rw [← hout] at HK ⊢
          clear hout
          by_cases hlt : k < m
          · obtain ⟨b', o', e', hcell⟩ := (HSC.out.below HK.out.2.1).lie (m - 1 - k) (by rw [HCM.out]; omega)
            simp only [Option.some.injEq, Addr.mk.injEq] at e'
            obtain ⟨rfl, rfl, -⟩ := e'
            obtain ⟨y, hy⟩ : ∃ y, C.getD (m - 1 - k) 0 = y := ⟨_, rfl⟩
            rw [hy] at hcell
            have hyb : y < 1000000000 := by
              rw [← hy, List.getD_eq_getElem?_getD, List.getElem?_eq_getElem (by rw [HCM.out]; omega)]
              exact HOK.out _ (List.getElem_mem _)
            have DC := dec_chunk (C := C) (j := m - 1 - k) (by rw [HCM.out]; omega) (by rw [hy]; exact hyb) (by rw [show m - 1 - k + 1 = m - k from by omega]; exact HK.out.2.2.1)
            rw [show m - 1 - k + 1 = m - k from by omega, hy] at DC
            have HDC := hid DC
            have HY := hid hy
            have AC := hid (appendChunk_c wr wo.heap.size out (Lib.decDigits (valC (C.drop (m - k)))) y hyb HK.out.1 HK.out.2.1.size (by have := HK.out.2.2.2; omega))
            clear DC hy
            go_wp2_with fail
            refine AC.out.mono ?_
            rintro e W3 ⟨v3, rfl, ho3, hb3⟩
            have HO3 := hid ho3
            have HB3 := hid hb3
            clear ho3 hb3 AC hcell
            go_wp2_with fail
            go_roundg (m - (k + 1))
            case measure => omega
            case rel =>
              have e3 : m - (k + 1) = m - 1 - k := by omega
              have o3 := HO3.out
              rw [HDC.out] at o3
              refine ⟨k + 1, Nat.le_refl _, by omega, by go_num, ?_, ?_, ?_, ?_⟩
              · rw [e3]; exact o3
              · exact ⟨HB3.out.os.trans HK.out.2.1.os, HB3.out.tape.trans HK.out.2.1.tape, HB3.out.output.trans HK.out.2.1.output, Nat.le_trans HK.out.2.1.size HB3.out.size, fun i hi => (HB3.out.block i hi).trans (HK.out.2.1.block i hi)⟩
              · rw [e3, valC_drop (by rw [HCM.out]; omega), show m - 1 - k + 1 = m - k from by omega]
                have := HK.out.2.2.1
                omega
              · rw [e3, ← HDC.out, List.length_append, padL_length]
                have := HK.out.2.2.2
                omega
          · have hkm : k = m := by omega
            have hO := HK.out.1
            rw [hkm, Nat.sub_self, List.drop_zero, ← HAC.out] at hO
            obtain ⟨gb, cap, rfl, hgb, hgc, hgm, hcell, -⟩ := hO.row (by rw [Lib.decDigits]; split <;> simp)
            have CV : (convert 41 9 (.slice (some ⟨gb, 0, none⟩) (Lib.decDigits A).length cap)).run Tryd.prog wr = .ok (.string ⟨(Lib.decDigits A).toArray⟩) wr := run_convert_bytes_back (P := Tryd.prog) wr 41 9 5 ⟨gb, 0, none⟩ cap (Lib.decDigits A) Tryd.underlying41 Tryd.underlying5 Tryd.underlying9 (fun j hj => by
              rw [addr_add, Nat.zero_add]
              exact hcell j hj)
            have HF := hid (HB.out.trans (HK.out.2.1.mono HB.out.size))
            clear hO hgc hgm hcell HK HAC HOK HD HO2 hkm
            go_wp2_with fail
            go_ret
            exact ⟨rfl, HF.out⟩
    · have hl0 : (digs R).length ≠ 0 := fun e => hR ((digs_length_zero R).1 e)
      obtain ⟨b, o, rfl, _⟩ := HR.out.res.sl.lie 0 (by omega)
      obtain ⟨rfl, hgb, rest, hblk, hor, hcr⟩ := HR.out.res.own b o rfl
      have hcm := HR.out.res.sl.max
      have hcc := HR.out.res.sl.cap
      obtain ⟨L, hL⟩ : ∃ L, (digs R).length = L := ⟨_, rfl⟩
      have DS := divSmall_c wr b (digs R) rest L cr 1000000000 hL (by rw [← hL]; exact hcc) hcm hblk (ok_digs _) (by omega) (by omega)
      rw [val_digs] at DS
      have HDS := hid DS
      have hCl : C.length < 32 * n := chunk_len HR.out.sum (Nat.pos_of_ne_zero hR) HA2.out
      have FACTS := hid (And.intro hR (And.intro hgb (And.intro hblk (And.intro hor (And.intro hcr hcm)))))
      have hRl := hl0
      rw [hL] at hRl ⊢
      have HL := hid hL
      have hcmp : cr ≤ 9223372036854775807 := by unfold maxLen at hcm; omega
      have hLc : L ≤ cr := by rw [← hL]; exact hcc
      clear DS hR hl0 hgb hblk hor hcr hcm hcc hL
      go_wp2_with fail
      refine HDS.out.mono ?_
      rintro e w1 ⟨Z, hZl, hZo, hZv, rfl, hwr⟩
      have HZ := hid (And.intro hZl (And.intro hZo (And.intro hZv hwr)))
      obtain ⟨x, hx⟩ : ∃ x, R % 1000000000 = x := ⟨_, rfl⟩
      have hxb : x < 1000000000 := by rw [← hx]; exact Nat.mod_lt _ (by omega)
      have HXX := hid hx
      have HOW : Hid (Own w1 w.heap.size ch C) := by
        refine HR.out.own.other (fun k hk => hwr.other (fun e => ?_))
        rw [e] at hk
        exact HR.out.apart b 0 rfl hk
      have hs1 : w.heap.size ≤ w1.heap.size := by rw [hwr.size]; exact HR.out.res.below.size
      rw [hx]
      clear hZl hZo hZv hwr hx
      go_wp2_with (at_builtin; refine append_u32_at _ rfl (.tmp 16) (.tmp 19) rfl w.heap.size _ C rfl (HOW.out.alloc _) ⟨w1.heap.size, 0, none⟩ 1 1 [x] rfl rfl (limbs_lit w1 x rfl) (by omega) (by simp; omega) ?_; intro ch' w3 hown' hbel hoth hat)
      have HNX := hid (TX.next (w2 := w1.alloc (.cells #[.int .u32 (x : Int)] 39)) HR.out FACTS.out.1 FACTS.out.2.1 FACTS.out.2.2.1 FACTS.out.2.2.2.1 FACTS.out.2.2.2.2.1 FACTS.out.2.2.2.2.2 (HZ.out.1.trans HL.out.symm) HZ.out.2.1 HZ.out.2.2.1 HZ.out.2.2.2 ((Below.refl _ _).alloc (Nat.le_refl _) _) (by rw [HXX.out]; exact hown') hbel hoth hat)
      clear hown' hbel hoth hat
      have TR := hid (trim_s w3 (some ⟨b, 0, none⟩) L cr (digs (R / 1000000000)).length Z (by rw [HZ.out.2.2.1]) (by rw [← HL.out]; exact HNX.out.2))
      go_wp2_with fail
      refine TR.out.mono ?_
      rintro e w4 ⟨rfl, rfl⟩
      go_wp2_with fail
      go_roundg (R / 1000000000)
      case measure => have := FACTS.out.1; omega
      case rel => exact ⟨R / 1000000000, C ++ [R % 1000000000], _, cr, Nat.le_refl _, by simp; omega, rfl, HNX.out.1⟩
end Go.Proofs.YtnjepeijihmemaaDoor
