import Derived.Test.YtaplbadcpbollaaGreatDoorSetA
import Derived.Lib.ItoaNum
import Derived.Test.YtaplbadcpbollaaGreatDoorSetD
import Derived.Maps.AppendAt
import Derived.Lib.AppendStr
import Derived.Lib.UnsafeStr
import Derived.Laws.IdiomStrings
import Derived.Deep.LoopGhost
import Derived.Test.YtaplbadcpbollaaGreatDoorSetB
import Derived.Test.YtaplbadcpbollaaGreatDoorSetK
import Derived.Test.YtaplbadcpbollaaGreatDoorShelf
import Derived.Lib.LaidTab
import Derived.Lib.ItoaLen
/-
  Plain mathematics, no Go: decimal digits by chunks of nine.
-/
namespace Go.Proofs.YtaplbadcpbollaaGreatDoor.Nt

/-- The lowest k decimal digits, the highest first, with noughts ahead. -/
def padL : Nat → Nat → List UInt8
  | 0, _ => []
  | k + 1, c => UInt8.ofNat (48 + c / 10 ^ k % 10) :: padL k c
theorem padL_length : ∀ k c, (padL k c).length = k
  | 0, _ => rfl
  | k + 1, c => by rw [padL, List.length_cons, padL_length k c]
theorem padL_snoc : ∀ k c, padL (k + 1) c = padL k (c / 10) ++ [UInt8.ofNat (48 + c % 10)]
  | 0, c => by simp [padL]
  | k + 1, c => by
    rw [padL, padL_snoc k c, padL, List.cons_append]
    congr 3
    rw [Nat.div_div_eq_div_mul, Nat.pow_succ, Nat.mul_comm]
theorem dec_pad (q : Nat) (hq : 0 < q) : ∀ k r, r < 10 ^ k → Lib.decDigits (q * 10 ^ k + r) = Lib.decDigits q ++ padL k r
  | 0, r, hr => by
    have : r = 0 := by simpa using hr
    subst this
    simp [padL]
  | k + 1, r, hr => by
    have e : q * 10 ^ (k + 1) = 10 * (q * 10 ^ k) := by rw [Nat.pow_succ, ← Nat.mul_assoc, Nat.mul_comm]
    have hp : 0 < q * 10 ^ k := Nat.mul_pos hq (Nat.pow_pos (by omega))
    rw [Lib.decDigits, dif_neg (by omega), e, show (10 * (q * 10 ^ k) + r) / 10 = q * 10 ^ k + r / 10 from by omega, show (10 * (q * 10 ^ k) + r) % 10 = r % 10 from by omega, dec_pad q hq k (r / 10) (by rw [Nat.pow_succ] at hr; omega), List.append_assoc, padL_snoc]

/-- A list of chunks, the lowest first. -/
def valC : List Nat → Nat
  | [] => 0
  | c :: r => c + 1000000000 * valC r
theorem valC_snoc (l : List Nat) (c : Nat) : valC (l ++ [c]) = valC l + 1000000000 ^ l.length * c := by
  induction l with
  | nil => simp [valC]
  | cons x r ih =>
    rw [List.cons_append, valC, valC, ih, List.length_cons, Nat.pow_succ, Nat.mul_add, Nat.mul_comm (1000000000 ^ r.length) 1000000000, Nat.mul_assoc]
    omega
theorem chunk_step {A V B R : Nat} (h : A = V + B * R) : A = V + B * (R % 1000000000) + B * 1000000000 * (R / 1000000000) := by
  have e := Nat.div_add_mod R 1000000000
  rw [h]
  conv => lhs; rw [← e]
  rw [Nat.mul_add, Nat.mul_assoc]
  omega
theorem chunk_len {A V k R m : Nat} (h : A = V + 1000000000 ^ k * R) (hR : 0 < R) (hA : A < 2 ^ m) : k < m := by
  have h1 : 2 ^ k ≤ 1000000000 ^ k := Nat.pow_le_pow_left (by omega) k
  have h2 : 1000000000 ^ k * 1 ≤ 1000000000 ^ k * R := Nat.mul_le_mul_left _ hR
  exact (Nat.pow_lt_pow_iff_right (by omega : 1 < 2)).1 (Nat.lt_of_le_of_lt (by omega) hA)
theorem valC_drop {C : List Nat} {j : Nat} (h : j < C.length) : valC (C.drop j) = C.getD j 0 + 1000000000 * valC (C.drop (j + 1)) := by
  rw [List.drop_eq_getElem_cons h, valC, List.getD_eq_getElem?_getD, List.getElem?_eq_getElem h]
  rfl
/-- The next chunk behind those that are told. -/
theorem dec_chunk {C : List Nat} {j : Nat} (h : j < C.length) (hc : C.getD j 0 < 1000000000) (hp : 0 < valC (C.drop (j + 1))) : Lib.decDigits (valC (C.drop (j + 1))) ++ padL 9 (C.getD j 0) = Lib.decDigits (valC (C.drop j)) := by
  have e : valC (C.drop j) = valC (C.drop (j + 1)) * 10 ^ 9 + C.getD j 0 := by rw [valC_drop h]; omega
  rw [e]
  exact (dec_pad _ hp 9 _ hc).symm
end Go.Proofs.YtaplbadcpbollaaGreatDoor.Nt

/-
  Rows of bytes that a call has made.
-/
namespace Go.Proofs.YtaplbadcpbollaaGreatDoor
open Go.RowKit Nt
set_option linter.unusedSimpArgs false
set_option linter.unusedVariables false
set_option maxRecDepth 20000

/-- The slice v, made by the call itself (blocks from base on), holds the bytes l. -/
def OwB (w : World) (base : Nat) (v : Value) (l : List UInt8) : Prop := w.ownsRow base 5 1 v l.length (Lib.byteCells l)

theorem byteCells_get (l : List UInt8) (k : Nat) (h : k < l.length) : (Lib.byteCells l)[k]? = some (.int .u8 (l[k].toNat : Int)) := by
  unfold Lib.byteCells
  rw [List.getElem?_map, List.getElem?_eq_getElem h]
  rfl
theorem OwB.below {w w' : World} {base : Nat} {v : Value} {l : List UInt8} (h : OwB w base v l) (hb : Below w.heap.size w w') : OwB w' base v l := by
  obtain ⟨h1, h2⟩ := h
  refine ⟨h1, ?_⟩
  rcases h2 with h2 | ⟨g, cap, cur, h3, h4, hg, hr⟩
  · exact Or.inl h2
  · exact Or.inr ⟨g, cap, cur, h3, h4, (hb.block g (Array.getElem?_eq_some_iff.1 hg).1).trans hg, hr⟩
theorem OwB.nil (w : World) (base : Nat) : OwB w base (.slice none 0 0) [] := World.ownsRow_nil _ _ _ _

/-- The row's own block. -/
theorem OwB.row {w : World} {base : Nat} {v : Value} {l : List UInt8} (h : OwB w base v l) (hne : l ≠ []) : ∃ g cap, v = .slice (some ⟨g, 0, none⟩) l.length cap ∧ base ≤ g ∧ l.length ≤ cap ∧ cap ≤ maxLen ∧
    (∀ k (hk : k < l.length), w.cell? ⟨g, k, none⟩ = some (.int .u8 (l[k].toNat : Int))) ∧ (∀ k, w.frozen? ⟨g, k, none⟩ = false) ∧
    (∀ k (b : UInt8), k < l.length → OwB (w.setCell ⟨g, k, none⟩ (.int .u8 (b.toNat : Int))) base v (l.set k b)) := by
  obtain ⟨h1, h2⟩ := h
  rcases h2 with ⟨rfl, h0⟩ | ⟨g, cap, cur, rfl, hb, hg, hc, hm, hs, ht⟩
  · exact absurd (List.length_eq_zero_iff.1 h0) hne
  · refine ⟨g, cap, rfl, hb, hc, hm, fun k hk => ?_, fun k => by simp [World.frozen?, hg], fun k b hk => ?_⟩
    · have e : (cur.toList.take (l.length * 1))[k]? = some (.int .u8 (l[k].toNat : Int)) := by rw [ht]; exact byteCells_get l k hk
      rw [List.getElem?_take, if_pos (by omega)] at e
      simp only [World.cell?, hg]
      simpa using e
    · rw [setCell_eq_setRow w g k cur _ _ _ hg]
      have hg' := setRow_heap w g _ (cur.setIfInBounds k (.int .u8 (b.toNat : Int))) _ _ hg
      refine ⟨by simp [Lib.byteCells], Or.inr ⟨g, cap, cur.setIfInBounds k (.int .u8 (b.toNat : Int)), by simp, hb, hg', by simpa using hc, hm, by simpa using hs, ?_⟩⟩
      rw [Array.toList_setIfInBounds, List.length_set, List.take_set, ht]
      unfold Lib.byteCells
      rw [List.map_set]

theorem OwB.at {w : World} {base g n cap : Nat} {l : List UInt8} (h : OwB w base (.slice (some ⟨g, 0, none⟩) n cap) l) : n = l.length ∧ base ≤ g ∧ g < w.heap.size ∧ l.length ≤ cap ∧ cap ≤ maxLen ∧
    (∀ k (hk : k < l.length), w.cell? ⟨g, k, none⟩ = some (.int .u8 (l[k].toNat : Int))) ∧ (∀ k, w.frozen? ⟨g, k, none⟩ = false) ∧
    (∀ k (b : UInt8), k < l.length → OwB (w.setCell ⟨g, k, none⟩ (.int .u8 (b.toNat : Int))) base (.slice (some ⟨g, 0, none⟩) n cap) (l.set k b)) ∧
    (∀ B (W : World) k (v : Value), Below B W w → B ≤ g → Below B W (w.setCell ⟨g, k, none⟩ v)) := by
  obtain ⟨h1, h2⟩ := h
  rcases h2 with ⟨h0, _⟩ | ⟨g', cap', cur, e, hb, hg, hc, hm, hs, ht⟩
  · cases h0
  · simp only [Value.slice.injEq, Option.some.injEq, Addr.mk.injEq] at e
    obtain ⟨⟨rfl, _, _⟩, rfl, rfl⟩ := e
    refine ⟨rfl, hb, (Array.getElem?_eq_some_iff.1 hg).1, hc, hm, fun k hk => ?_, fun k => by simp [World.frozen?, hg], fun k b hk => ?_, fun B W k v hB hBg => ?_⟩
    · have e : (cur.toList.take (l.length * 1))[k]? = some (.int .u8 (l[k].toNat : Int)) := by rw [ht]; exact byteCells_get l k hk
      rw [List.getElem?_take, if_pos (by omega)] at e
      simp only [World.cell?, hg]
      simpa using e
    · rw [setCell_eq_setRow w g k cur _ _ _ hg]
      have hg' := setRow_heap w g _ (cur.setIfInBounds k (.int .u8 (b.toNat : Int))) _ _ hg
      refine ⟨by simp [Lib.byteCells], Or.inr ⟨g, cap, cur.setIfInBounds k (.int .u8 (b.toNat : Int)), by simp, hb, hg', by simpa using hc, hm, by simpa using hs, ?_⟩⟩
      rw [Array.toList_setIfInBounds, List.length_set, List.take_set, ht]
      unfold Lib.byteCells
      rw [List.map_set]
    · rw [setCell_eq_setRow w g k cur _ _ _ hg]
      exact below_setRow hB hBg _
theorem infoU8 : (Tryz.prog.info? 5).map (fun i => (i.zero, i.size, i.bytes)) = some (some (.int .u8 0), 1, 1) := by kernel_rfl
end Go.Proofs.YtaplbadcpbollaaGreatDoor

/-
  nat.appendChunk: nine digits, with their noughts ahead.
-/
namespace Go.Proofs.YtaplbadcpbollaaGreatDoor
open Go.RowKit Nt
set_option linter.unusedSimpArgs false
set_option linter.unusedVariables false
set_option maxRecDepth 20000

theorem padc_set (l : List UInt8) (i c : Nat) (hi : i < 9) (b : UInt8) : (l ++ (List.replicate (9 - i) 48 ++ padL i c)).set (l.length + (8 - i)) b = l ++ (List.replicate (8 - i) 48 ++ (b :: padL i c)) := by
  rw [List.set_append_right _ _ (by omega), show l.length + (8 - i) - l.length = 8 - i from by omega]
  congr 1
  rw [show 9 - i = (8 - i) + 1 from by omega, List.replicate_succ', List.append_assoc, List.set_append_right _ _ (by simp), List.length_replicate, Nat.sub_self]
  rfl
theorem padc_get (l : List UInt8) (i c : Nat) (hi : i < 9) (h : l.length + (8 - i) < (l ++ (List.replicate (9 - i) 48 ++ padL i c)).length) : (l ++ (List.replicate (9 - i) 48 ++ padL i c))[l.length + (8 - i)] = 48 := by
  rw [List.getElem_append_right (by omega), List.getElem_append_left (by simp; omega), List.getElem_replicate]

set_option maxHeartbeats 4000000 in
theorem appendChunk_c (w : World) (base : Nat) (v : Value) (l : List UInt8) (c : Nat) (hc : c < 1000000000) (h : OwB w base v l) (hb : base ≤ w.heap.size) (hl : l.length ≤ 140737488355000) :
    Calls Tryz.prog 73 #[v, .int .u32 c] w fun e w' => ∃ v', e = .returned v' ∧ OwB w' base v' (l ++ padL 9 c) ∧ Below base w w' := by
  obtain ⟨i0, hi, hz0, hz1, hz2⟩ := info_parts infoU8
  have HOW := hid h
  clear h
  go_enter Tryz.func73, Tryz.ntmps73
  go_wp2_with (at_builtin; refine Lib.wpList_append_own_string _ rfl _ _ 87 9 rfl base 5 i0 Tryz.underlying87 Tryz.underlying9 hi hz0 hz1 hz2 _ _ _ rfl HOW.out ⟨#[48, 48, 48, 48, 48, 48, 48, 48, 48]⟩ rfl (by unfold maxLen; simp [ByteArray.size]; omega) (by simp [ByteArray.size]; omega) hb ?_)
  intro v' w1 hown hgrow hnn
  clear hnn
  have ho1 : OwB w1 base v' (l ++ (List.replicate 9 48 ++ padL 0 c)) := by
    have e1 : (l ++ (List.replicate 9 48 ++ padL 0 c)).length = l.length + 9 := by simp [padL]
    have e2 : Lib.byteCells (l ++ (List.replicate 9 48 ++ padL 0 c)) = Lib.byteCells l ++ Lib.strCells ⟨#[48, 48, 48, 48, 48, 48, 48, 48, 48]⟩ := by
      rw [Lib.byteCells_append]
      rfl
    unfold OwB
    rw [e1, e2]
    exact hown
  have hB1 : Below base w w1 := (Below.refl base w).grown hgrow hb (fun k hk => (World.ownsRow.lt HOW.out k hk).1)
  obtain ⟨g, cap, rfl, hgb, hgc, hgm, -⟩ := ho1.row (by simp)
  have e9 : (l ++ (List.replicate 9 48 ++ padL 0 c)).length = l.length + 9 := by simp [padL]
  rw [e9] at ho1 hgc ⊢
  unfold maxLen at hgm
  have HO1 := hid ho1
  have HB1 := hid hB1
  obtain ⟨n, hn⟩ : ∃ n, l.length + 9 = n := ⟨_, rfl⟩
  rw [hn] at HO1 hgc ⊢
  have hn8 : (8 : Int) < (n : Int) := by omega
  have HN := hid hn
  clear hown hgrow ho1 hB1 e9 hn
  go_wp2_with fail
  go_loopg [1, 8] 9 (fun gk s1 s8 wr => ∃ i x : Nat, 9 - i ≤ gk ∧ i ≤ 9 ∧ s8 = .int .i64 i ∧ s1 = .int .u32 x ∧ x < 4294967296 ∧ Hid (x = c / 10 ^ i ∧ OwB wr base (.slice (some ⟨g, 0, none⟩) n cap) (l ++ (List.replicate (9 - i) 48 ++ padL i c)) ∧ Below base w wr))
  case atStart => exact ⟨0, c, Nat.le_refl _, by omega, rfl, rfl, by omega, by simp, HO1.out, HB1.out⟩
  case round =>
    obtain ⟨i, x, hgk, hi9, rfl, rfl, hx, HR⟩ := hrel
    by_cases hlt : i < 9
    · obtain ⟨-, hgb2, -, -, -, hcell, hfr, hset, hbel⟩ := HR.out.2.1.at
      have hpos : l.length + (8 - i) < (l ++ (List.replicate (9 - i) 48 ++ padL i c)).length := by simp [padL_length]; omega
      have hk := hcell _ hpos
      rw [padc_get l i c hlt hpos] at hk
      have hki : l.length + (8 - i) = n - 1 - i := by have := HN.out; omega
      have hf := hfr (l.length + (8 - i))
      rw [hki] at hk hf
      have hk' : wr.cell? ⟨g, n - 1 - i, none⟩ = some (.int .u8 48) := hk
      have HSET := hid hset
      have HBEL := hid hbel
      have HKI := hid hki
      clear hcell hfr hset hbel hpos hk hki
      go_wp2_with fail
      go_roundg (9 - (i + 1))
      case measure => omega
      case rel =>
        have hb8 : (((UInt8.ofNat (48 + x % 10)).toNat : Nat) : Int) = 48 + (x : Int) % 10 := by
          rw [UInt8.toNat_ofNat']
          omega
        have hpos : l.length + (8 - i) < (l ++ (List.replicate (9 - i) 48 ++ padL i c)).length := by simp [padL_length]; omega
        have h1 := HSET.out (l.length + (8 - i)) (UInt8.ofNat (48 + x % 10)) hpos
        rw [padc_set l i c hlt, hb8, HKI.out] at h1
        refine ⟨i + 1, x / 10, Nat.le_refl _, by omega, by go_num, by go_num, by omega, ?_, ?_, HBEL.out _ _ _ _ HR.out.2.2 hgb2⟩
        · rw [HR.out.1, Nat.div_div_eq_div_mul, Nat.pow_succ]
        · rw [show 9 - (i + 1) = 8 - i from by omega, padL, ← HR.out.1]
          exact h1
    · have h9 : i = 9 := by omega
      subst h9
      have HF := hid HR.out.2
      clear HR
      go_wp2_with fail
      go_ret
      exact ⟨_, rfl, by simpa using HF.out.1, HF.out.2⟩
end Go.Proofs.YtaplbadcpbollaaGreatDoor

/-
  A row whose number was written anew, in place.
-/
namespace Go.Proofs.YtaplbadcpbollaaGreatDoor
open Go.RowKit Nt
set_option linter.unusedSimpArgs false
set_option linter.unusedVariables false
set_option maxRecDepth 20000

/-- A row whose number was written anew, in place. -/
theorem Res.rewritten {w W W' : World} {g c : Nat} {D rest Z : List Nat} {A : Nat} (hb : Below w.heap.size w W) (hg : Blk W g (D ++ rest)) (hB : w.heap.size ≤ g) (hc : c = D.length + rest.length) (hm : c ≤ maxLen) (ho : Ok rest)
    (hZ : Z.length = D.length) (hoZ : Ok Z) (hv : val Z = A) (hw : Wr W g (Z ++ rest) W') : Res w W' (some ⟨g, 0, none⟩) c A := by
  subst hv
  have hblk := Wr.blk hg hw
  have hd : Z.take (Nt.digs (val Z)).length = Nt.digs (val Z) := take_digs_val hoZ
  have hlz : (Nt.digs (val Z)).length ≤ Z.length := digs_le_length hoZ
  have hsp : Z ++ rest = Nt.digs (val Z) ++ (Z.drop (Nt.digs (val Z)).length ++ rest) := by
    rw [← List.append_assoc]
    congr 1
    conv => lhs; rw [← List.take_append_drop (Nt.digs (val Z)).length Z]
    rw [hd]
  have hok : Ok (Z.drop (Nt.digs (val Z)).length ++ rest) := (hoZ.drop _).append ho
  have hcl : c = (Nt.digs (val Z)).length + (Z.drop (Nt.digs (val Z)).length ++ rest).length := by
    rw [List.length_append, List.length_drop]
    omega
  rw [hsp] at hblk
  refine ⟨hw.below hb hB, ⟨rfl, by omega, hm, (fun e => by cases e), ok_digs _, ?_⟩, fun b o e => ?_⟩
  · have := hblk.limbs.take (Nt.digs (val Z)).length
    rwa [List.take_left] at this
  · simp only [Option.some.injEq, Addr.mk.injEq] at e
    obtain ⟨rfl, rfl, _⟩ := e
    exact ⟨rfl, hB, _, hblk, hok, hcl⟩
end Go.Proofs.YtaplbadcpbollaaGreatDoor

/-
  nat.Text, whole: the decimal digits.
-/
namespace Go.Proofs.YtaplbadcpbollaaGreatDoor
open Go.RowKit Nt
set_option linter.unusedSimpArgs false
set_option linter.unusedVariables false
set_option maxRecDepth 20000

/-- The library's table of powers of ten lies where the program lays it. -/
def Tab (w : World) : Prop := Lib.TabIs Tryz.prog w "internal/strconv.uint64pow10" .u64 Lib.pow10Tab
theorem Tab.below {w w' : World} (h : Tab w) (hb : Below w.heap.size w w') : Tab w' := by
  unfold Tab Lib.TabIs World.var? at *
  cases hg : Tryz.prog.globalNamed "internal/strconv.uint64pow10" with
  | none => rw [hg] at h; cases h
  | some g =>
    rw [hg] at h
    simp only [Option.bind_some] at h ⊢
    cases hw : w.heap[g]? with
    | none => rw [hw] at h; cases h
    | some o =>
      rw [hb.block g (Array.getElem?_eq_some_iff.1 hw).1]
      exact h

theorem iappendUint_c (w : World) (u : Nat) (hu : u < 18446744073709551616) (ht : Tab w) :
    Calls Tryz.prog 102 #[.slice none 0 0, .int .u64 u, .int .i64 10] w fun e w' => ∃ v', e = .returned v' ∧ OwB w' w.heap.size v' (Lib.decDigits u) ∧ Below w.heap.size w w' := by
  refine (Tryz.internal_strconv_AppendUint_10 w.heap.size 0 u hu (.slice none 0 0) [] w (World.ownsRow_nil _ _ _ _) (Nat.le_refl _) (by omega) ht).mono ?_
  rintro e w' ⟨v', rfl, h1, h2, _⟩
  refine ⟨v', rfl, ?_, h2⟩
  unfold OwB
  rw [Nat.zero_add, List.nil_append] at h1
  exact h1
theorem appendUint_c (w : World) (u : Nat) (hu : u < 18446744073709551616) (ht : Tab w) :
    Calls Tryz.prog 72 #[.slice none 0 0, .int .u64 u, .int .i64 10] w fun e w' => ∃ v', e = .returned v' ∧ OwB w' w.heap.size v' (Lib.decDigits u) ∧ Below w.heap.size w w' := by
  have S := hid (iappendUint_c w u hu ht)
  clear ht
  go_enter Tryz.func72, Tryz.ntmps72
  go_wp2_with fail
  refine S.out.mono ?_
  rintro e w' ⟨v', rfl, h1, h2⟩
  go_wp2
  go_ret
  exact ⟨v', rfl, h1, h2⟩

theorem append_u32_at {ops : Array Oper} {rest : List Oper} {o : Oper} {a : Act} {Q : Exit → Act → World → Prop} (w : World) (hgd : o.guard = none) (s x : Operand)
    (ho : o.op = .call { callee := .builtin .append, args := #[s, x], argTypes := #[22, 22] })
    (base : Nat) (v : Value) (xs : List Nat) (hs : a.eval s = v) (hown : Own w base v xs)
    (ad : Addr) (m c : Nat) (news : List Nat) (hx : a.eval x = .slice (some ad) m c) (hl : news.length = m) (hnews : Limbs w (some ad) news)
    (hb : xs.length + m ≤ 35184372088832) (hbase : base ≤ w.heap.size)
    (h : ∀ v' w', Own w' base v' (xs ++ news) → Below base w w' → (∀ k, k < w.heap.size → v.ownBlock ≠ some k → w'.heap[k]? = w.heap[k]?) → (v'.ownBlock = v.ownBlock ∨ v'.ownBlock = some w.heap.size) → wpList Tryz.prog ops Q rest (a.put o.dst v') w') : wpList Tryz.prog ops Q (o :: rest) a w := by
  obtain ⟨i0, hi, hz0, hz1, hz2⟩ := info_parts infoU32
  refine wpList_append_own_at w hgd s x 22 ho base 67 i0 (.int .u32 0) 1 4 Tryz.underlying22 hi hz0 hz1 hz2 rfl (by decide) v xs.length (U xs) hs hown ad m c (U news) hx (by simp [U, hl]) ?_ (oneCell_U news) (by unfold maxLen; omega) (by omega) hbase ?_
  · intro j u hj
    have hj' : j < news.length := by
      have := (List.getElem?_eq_some_iff.1 hj).1
      simpa [U] using this
    rw [U_get news j hj'] at hj
    obtain ⟨b, o', e, hc⟩ := hnews j hj'
    obtain rfl := Option.some.inj e
    rw [← hj, ← hc]
    rw [addr_add]
  · intro v' w' h1 h2 _ h4
    refine h v' w' ?_ ?_ (fun k hk hne => h2.block k hk (fun e => hne e.symm)) h4
    · unfold Own
      rw [U_append, List.length_append, hl]
      exact h1
    · exact (Below.refl base w).grown h2 hbase (fun k hk => (World.ownsRow.lt hown k hk).1)

theorem Own.other {w w' : World} {base : Nat} {v : Value} {xs : List Nat} (h : Own w base v xs) (hk : ∀ k, v.ownBlock = some k → w'.heap[k]? = w.heap[k]?) : Own w' base v xs := by
  obtain ⟨h1, h2⟩ := h
  refine ⟨h1, ?_⟩
  rcases h2 with h2 | ⟨g, cap, cur, rfl, h4, hg, hr⟩
  · exact Or.inl h2
  · exact Or.inr ⟨g, cap, cur, rfl, h4, (hk g rfl).trans hg, hr⟩

/-- What the loop of chunks keeps. -/
structure TX (w wr : World) (A R : Nat) (C : List Nat) (ch : Value) (r : Option Addr) (cr : Nat) : Prop where
  own : Own wr w.heap.size ch C
  ok : ∀ c ∈ C, c < 1000000000
  res : Res w wr r cr R
  sum : A = valC C + 1000000000 ^ C.length * R
  apart : ∀ b o, r = some ⟨b, o, none⟩ → ch.ownBlock ≠ some b
  top : R = 0 → ∀ h : C ≠ [], C.getLast h ≠ 0

theorem TX.okC {w wr : World} {A R : Nat} {C : List Nat} {ch : Value} {r : Option Addr} {cr : Nat} (h : TX w wr A R C ch r cr) : Ok C := fun c hc => by have := h.ok c hc; omega

/-- A round of the loop. -/
theorem TX.next {w wr w1 w2 w3 : World} {A R : Nat} {C Z rest : List Nat} {ch ch' : Value} {b cr : Nat} (h : TX w wr A R C ch (some ⟨b, 0, none⟩) cr) (hR : R ≠ 0)
    (hgb : w.heap.size ≤ b) (hblk : Blk wr b (digs R ++ rest)) (hor : Ok rest) (hcr : cr = (digs R).length + rest.length) (hcm : cr ≤ maxLen)
    (hZl : Z.length = (digs R).length) (hZo : Ok Z) (hZv : val Z = R / 1000000000) (hw : Wr wr b (Z ++ rest) w1) (h2 : Below w1.heap.size w1 w2)
    (hown : Own w3 w.heap.size ch' (C ++ [R % 1000000000])) (hbel : Below w.heap.size w2 w3) (hoth : ∀ k, k < w2.heap.size → ch.ownBlock ≠ some k → w3.heap[k]? = w2.heap[k]?) (hat : ch'.ownBlock = ch.ownBlock ∨ ch'.ownBlock = some w2.heap.size) :
    TX w w3 A (R / 1000000000) (C ++ [R % 1000000000]) ch' (some ⟨b, 0, none⟩) cr ∧ Sl w3 (some ⟨b, 0, none⟩) (digs R).length cr Z := by
  have hb2 : b < w1.heap.size := by rw [hw.size]; exact (Array.getElem?_eq_some_iff.1 hblk).1
  have hblk1 := Wr.blk hblk hw
  have hblk3 : Blk w3 b (Z ++ rest) := by
    unfold Blk at *
    rw [hoth b (Nat.lt_of_lt_of_le hb2 h2.size) (h.apart b 0 rfl), h2.block b hb2]
    exact hblk1
  have hbel3 : Below w.heap.size w w3 := by
    have e1 := hw.below h.res.below hgb
    have e2 := e1.trans (h2.mono e1.size)
    exact ⟨hbel.os.trans e2.os, hbel.tape.trans e2.tape, hbel.output.trans e2.output, Nat.le_trans e2.size hbel.size, fun k hk => (hbel.block k hk).trans (e2.block k hk)⟩
  refine ⟨⟨hown, ?_, ?_, ?_, ?_, ?_⟩, ?_⟩
  · intro c hc
    rcases List.mem_append.1 hc with hc | hc
    · exact h.ok c hc
    · simp at hc; omega
  · have hsp := Res.rewritten (w := w) (W := w3) (W' := w3) (g := b) (c := cr) (D := Z) (rest := rest) (Z := Z) (A := R / 1000000000) hbel3 hblk3 hgb (by omega) hcm hor rfl hZo hZv (Wr.refl hblk3)
    exact hsp
  · rw [valC_snoc, List.length_append, List.length_singleton, Nat.pow_succ]
    exact chunk_step h.sum
  · intro b' o' e
    simp only [Option.some.injEq, Addr.mk.injEq] at e
    obtain ⟨rfl, rfl, _⟩ := e
    rcases hat with e | e
    · rw [e]; exact h.apart b 0 rfl
    · rw [e]
      intro e'
      have := Option.some.inj e'
      have := h2.size
      omega
  · intro hz _
    have eL : (C ++ [R % 1000000000]).getLast (by simp) = R % 1000000000 := by simp
    rw [eL]
    intro hm
    have := Nat.div_add_mod R 1000000000
    rw [hz, hm] at this
    omega
  · refine ⟨hZl, by omega, hcm, (fun e => by cases e), hZo, ?_⟩
    have := hblk3.limbs.take Z.length
    rwa [List.take_left] at this

/-- The two loops' ends: the top chunk, then one after the other. -/
theorem drop_last {C : List Nat} (h : C ≠ []) (ht : C.getLast h ≠ 0) : valC (C.drop (C.length - 1)) = C.getD (C.length - 1) 0 ∧ C.getD (C.length - 1) 0 ≠ 0 := by
  have hl : 0 < C.length := List.length_pos_iff.2 h
  have e : C.getD (C.length - 1) 0 = C.getLast h := by
    rw [List.getLast_eq_getElem, List.getD_eq_getElem?_getD, List.getElem?_eq_getElem (by omega)]
    rfl
  refine ⟨?_, by rw [e]; exact ht⟩
  rw [valC_drop (by omega), List.drop_of_length_le (by omega), valC]
  omega

set_option maxRecDepth 20000 in
set_option maxHeartbeats 4000000 in
theorem text_c (w : World) (p : Option Addr) (n c : Nat) (xs : List Nat) (h : Sl w p n c xs) (hs : n ≤ 1048577) (ht : Tab w) :
    Calls Tryz.prog 41 #[.slice p n c] w fun e w' => e = .returned (.string ⟨(Lib.decDigits (val xs)).toArray⟩) ∧ Below w.heap.size w w' := by
  obtain ⟨A, hA⟩ : ∃ A, val xs = A := ⟨_, rfl⟩
  have hdl := h.dl
  rw [hA] at hdl ⊢
  have hA2 : A < 2 ^ (32 * n) := by
    have h1 := lt_pow_digs A
    have h2 : (4294967296 : Nat) ^ (digs A).length ≤ 4294967296 ^ n := Nat.pow_le_pow_right (by omega) hdl
    have h3 : (4294967296 : Nat) ^ n = 2 ^ (32 * n) := by rw [Nat.pow_mul]
    omega
  have HA2 := hid hA2
  have HT := hid ht
  have HN := hid (fun (W : World) (hW : Below w.heap.size w W) => norm_n W p n c A ((h.below hW).num.cast hA) 1048577 hs (by omega))
  clear h hA hdl hA2 ht
  go_enter Tryz.func41, Tryz.ntmps41
  go_wp2_with fail
  obtain ⟨W0, hW0⟩ : ∃ W, W = w.alloc (.cells #[] 67) := ⟨_, rfl⟩
  have hB0 : Below w.heap.size w W0 := by rw [hW0]; exact (Below.refl _ _).alloc (Nat.le_refl _) _
  have hG0 : W0.heap[w.heap.size]? = some (.cells #[] 67) := by rw [hW0]; exact heap_alloc_last _ _
  have hS0 : W0.heap.size = w.heap.size + 1 := by rw [hW0]; simp
  rw [← hW0]
  refine (HN.out W0 hB0).mono ?_
  rintro e W1 ⟨r, cr, rfl, R1, _⟩
  have TX0 : Hid (TX w W1 A A [] (.slice (some ⟨w.heap.size, 0, none⟩) 0 0) r cr) := by
    refine ⟨⟨rfl, Or.inr ⟨w.heap.size, 0, #[], rfl, Nat.le_refl _, ?_, Nat.le_refl _, by unfold maxLen; omega, rfl, rfl⟩⟩, (fun c hc => by cases hc), R1.since hB0, (by simp [valC]), ?_, fun _ h => absurd rfl h⟩
    · rw [R1.below.block _ (by omega)]; exact hG0
    · intro b o e
      have := (R1.own b o e).2.1
      intro e'
      simp [Value.ownBlock] at e'
      omega
  obtain ⟨g0, hg0⟩ : ∃ g, g = w.heap.size := ⟨_, rfl⟩
  rw [← hg0] at TX0 ⊢
  clear hW0 hB0 hG0 hS0 R1 HN
  have HG0 := hid hg0
  clear hg0
  go_wp2_with fail
  go_loopg [3, 4] A (fun gk s3 s4 wr => ∃ (R : Nat) (C : List Nat) (r : Option Addr) (cr : Nat), R ≤ gk ∧ C.length ≤ 32 * n ∧ s4 = .slice r (digs R).length cr ∧ Hid (TX w wr A R C s3 r cr))
  case atStart => exact ⟨A, [], r, cr, Nat.le_refl _, Nat.zero_le _, rfl, TX0.out⟩
  case round =>
    obtain ⟨R, C, r, cr, hgk, hCn, rfl, HR⟩ := hrel
    obtain ⟨ch, hch⟩ : ∃ v, v = u3 := ⟨_, rfl⟩
    rw [← hch] at HR ⊢
    clear hch
    clear TX0
    by_cases hR : R = 0
    · subst hR
      obtain ⟨wo, rfl⟩ : ∃ wo : World, wo = wr := ⟨_, rfl⟩
      have hz : (digs 0).length = 0 := rfl
      have hAC : A = valC C := by have := HR.out.sum; rw [Nat.mul_zero, Nat.add_zero] at this; exact this
      obtain ⟨pc, cc, rfl, hSC⟩ := HR.out.own.sl HR.out.okC
      by_cases hC : C = []
      · subst hC
        have hA0 : A = 0 := by rw [hAC]; rfl
        have HB := hid HR.out.res.below
        clear HR hAC hSC
        go_wp2_with fail
        go_ret
        refine ⟨?_, HB.out⟩
        rw [hA0, Lib.decDigits_one (by omega)]
        rfl
      · have hl0 : 0 < C.length := List.length_pos_iff.2 hC
        obtain ⟨hd1, hd2⟩ := drop_last hC (HR.out.top rfl hC)
        obtain ⟨m, hm⟩ : ∃ m, C.length = m + 1 := ⟨C.length - 1, by omega⟩
        rw [hm, Nat.add_sub_cancel] at hd1 hd2
        have hmb : m + 1 ≤ 33554464 := by omega
        have hcm := hSC.max
        have hcc := hSC.cap
        rw [hm] at hSC hcc ⊢
        unfold maxLen at hcm
        obtain ⟨bc, oc, rfl, hcell⟩ := hSC.lie m (by omega)
        obtain ⟨x, hx⟩ : ∃ x, C.getD m 0 = x := ⟨_, rfl⟩
        rw [hx] at hcell hd1 hd2
        have hxb : x < 1000000000 := by
          rw [← hx, List.getD_eq_getElem?_getD, List.getElem?_eq_getElem (by omega)]
          exact HR.out.ok _ (List.getElem_mem _)
        have AU := hid (appendUint_c wo x (by omega) (HT.out.below HR.out.res.below))
        have HD := hid (And.intro hd1 hd2)
        have HSC := hid hSC
        have HCM := hid hm
        have HAC := hid hAC
        have HB := hid HR.out.res.below
        have HOK := hid HR.out.ok
        clear hd1 hd2 hx hm hAC HR hC hSC hl0
        go_wp2_with fail
        refine AU.out.mono ?_
        rintro e W2 ⟨v2, rfl, ho2, hb2⟩
        have HO2 := hid ho2
        have HB2 := hid hb2
        clear ho2 hb2 AU hcell
        go_wp2_with fail
        go_loopg [6, 34] m (fun gk s6 s34 wr => ∃ k : Nat, m - k ≤ gk ∧ k ≤ m ∧ s34 = .int .i64 k ∧ Hid (OwB wr wo.heap.size s6 (Lib.decDigits (valC (C.drop (m - k)))) ∧ Below wo.heap.size wo wr ∧ 0 < valC (C.drop (m - k)) ∧ (Lib.decDigits (valC (C.drop (m - k)))).length ≤ 20 + 9 * k))
        case atStart =>
          refine ⟨0, Nat.sub_le _ _, Nat.zero_le _, rfl, ?_, HB2.out, ?_, ?_⟩
          · rw [Nat.sub_zero, HD.out.1]; exact HO2.out
          · rw [Nat.sub_zero, HD.out.1]; have := HD.out.2; omega
          · rw [Nat.sub_zero, HD.out.1, Lib.decDigits_length]; exact Lib.nDigits_le20 _ (by omega)
        case round =>
          obtain ⟨k, hgk2, hk, rfl, HK⟩ := hrel
          obtain ⟨out, hout⟩ : ∃ v, v = u6 := ⟨_, rfl⟩
          rw [← hout] at HK ⊢
          clear hout
          by_cases hlt : k < m
          · obtain ⟨b', o', e', hcell⟩ := (HSC.out.below HK.out.2.1).lie (m - 1 - k) (by rw [HCM.out]; omega)
            simp only [Option.some.injEq, Addr.mk.injEq] at e'
            obtain ⟨rfl, rfl, -⟩ := e'
            obtain ⟨y, hy⟩ : ∃ y, C.getD (m - 1 - k) 0 = y := ⟨_, rfl⟩
            rw [hy] at hcell
            have hyb : y < 1000000000 := by
              rw [← hy, List.getD_eq_getElem?_getD, List.getElem?_eq_getElem (by rw [HCM.out]; omega)]
              exact HOK.out _ (List.getElem_mem _)
            have DC := dec_chunk (C := C) (j := m - 1 - k) (by rw [HCM.out]; omega) (by rw [hy]; exact hyb) (by rw [show m - 1 - k + 1 = m - k from by omega]; exact HK.out.2.2.1)
            rw [show m - 1 - k + 1 = m - k from by omega, hy] at DC
            have HDC := hid DC
            have HY := hid hy
            have AC := hid (appendChunk_c wr wo.heap.size out (Lib.decDigits (valC (C.drop (m - k)))) y hyb HK.out.1 HK.out.2.1.size (by have := HK.out.2.2.2; omega))
            clear DC hy
            go_wp2_with fail
            refine AC.out.mono ?_
            rintro e W3 ⟨v3, rfl, ho3, hb3⟩
            have HO3 := hid ho3
            have HB3 := hid hb3
            clear ho3 hb3 AC hcell
            go_wp2_with fail
            go_roundg (m - (k + 1))
            case measure => omega
            case rel =>
              have e3 : m - (k + 1) = m - 1 - k := by omega
              have o3 := HO3.out
              rw [HDC.out] at o3
              refine ⟨k + 1, Nat.le_refl _, by omega, by go_num, ?_, ?_, ?_, ?_⟩
              · rw [e3]; exact o3
              · exact ⟨HB3.out.os.trans HK.out.2.1.os, HB3.out.tape.trans HK.out.2.1.tape, HB3.out.output.trans HK.out.2.1.output, Nat.le_trans HK.out.2.1.size HB3.out.size, fun i hi => (HB3.out.block i hi).trans (HK.out.2.1.block i hi)⟩
              · rw [e3, valC_drop (by rw [HCM.out]; omega), show m - 1 - k + 1 = m - k from by omega]
                have := HK.out.2.2.1
                omega
              · rw [e3, ← HDC.out, List.length_append, padL_length]
                have := HK.out.2.2.2
                omega
          · have hkm : k = m := by omega
            have hO := HK.out.1
            rw [hkm, Nat.sub_self, List.drop_zero, ← HAC.out] at hO
            obtain ⟨gb, cap, rfl, hgb, hgc, hgm, hcell, -⟩ := hO.row (by rw [Lib.decDigits]; split <;> simp)
            have CV : (convert 87 9 (.slice (some ⟨gb, 0, none⟩) (Lib.decDigits A).length cap)).run Tryz.prog wr = .ok (.string ⟨(Lib.decDigits A).toArray⟩) wr := run_convert_bytes_back (P := Tryz.prog) wr 87 9 5 ⟨gb, 0, none⟩ cap (Lib.decDigits A) Tryz.underlying87 Tryz.underlying5 Tryz.underlying9 (fun j hj => by
              rw [addr_add, Nat.zero_add]
              exact hcell j hj)
            have HF := hid (HB.out.trans (HK.out.2.1.mono HB.out.size))
            clear hO hgc hgm hcell HK HAC HOK HD HO2 hkm
            go_wp2_with fail
            go_ret
            exact ⟨rfl, HF.out⟩
    · have hl0 : (digs R).length ≠ 0 := fun e => hR ((digs_length_zero R).1 e)
      obtain ⟨b, o, rfl, _⟩ := HR.out.res.sl.lie 0 (by omega)
      obtain ⟨rfl, hgb, rest, hblk, hor, hcr⟩ := HR.out.res.own b o rfl
      have hcm := HR.out.res.sl.max
      have hcc := HR.out.res.sl.cap
      obtain ⟨L, hL⟩ : ∃ L, (digs R).length = L := ⟨_, rfl⟩
      have DS := divSmall_c wr b (digs R) rest L cr 1000000000 hL (by rw [← hL]; exact hcc) hcm hblk (ok_digs _) (by omega) (by omega)
      rw [val_digs] at DS
      have HDS := hid DS
      have hCl : C.length < 32 * n := chunk_len HR.out.sum (Nat.pos_of_ne_zero hR) HA2.out
      have FACTS := hid (And.intro hR (And.intro hgb (And.intro hblk (And.intro hor (And.intro hcr hcm)))))
      have hRl := hl0
      rw [hL] at hRl ⊢
      have HL := hid hL
      have hcmp : cr ≤ 9223372036854775807 := by unfold maxLen at hcm; omega
      have hLc : L ≤ cr := by rw [← hL]; exact hcc
      clear DS hR hl0 hgb hblk hor hcr hcm hcc hL
      go_wp2_with fail
      refine HDS.out.mono ?_
      rintro e w1 ⟨Z, hZl, hZo, hZv, rfl, hwr⟩
      have HZ := hid (And.intro hZl (And.intro hZo (And.intro hZv hwr)))
      obtain ⟨x, hx⟩ : ∃ x, R % 1000000000 = x := ⟨_, rfl⟩
      have hxb : x < 1000000000 := by rw [← hx]; exact Nat.mod_lt _ (by omega)
      have HXX := hid hx
      have HOW : Hid (Own w1 w.heap.size ch C) := by
        refine HR.out.own.other (fun k hk => hwr.other (fun e => ?_))
        rw [e] at hk
        exact HR.out.apart b 0 rfl hk
      have hs1 : w.heap.size ≤ w1.heap.size := by rw [hwr.size]; exact HR.out.res.below.size
      rw [hx]
      clear hZl hZo hZv hwr hx
      go_wp2_with (at_builtin; refine append_u32_at _ rfl (.tmp 16) (.tmp 19) rfl w.heap.size _ C rfl (HOW.out.alloc _) ⟨w1.heap.size, 0, none⟩ 1 1 [x] rfl rfl (limbs_lit w1 x rfl) (by omega) (by simp; omega) ?_; intro ch' w3 hown' hbel hoth hat)
      have HNX := hid (TX.next (w2 := w1.alloc (.cells #[.int .u32 (x : Int)] 67)) HR.out FACTS.out.1 FACTS.out.2.1 FACTS.out.2.2.1 FACTS.out.2.2.2.1 FACTS.out.2.2.2.2.1 FACTS.out.2.2.2.2.2 (HZ.out.1.trans HL.out.symm) HZ.out.2.1 HZ.out.2.2.1 HZ.out.2.2.2 ((Below.refl _ _).alloc (Nat.le_refl _) _) (by rw [HXX.out]; exact hown') hbel hoth hat)
      clear hown' hbel hoth hat
      have TR := hid (trim_s w3 (some ⟨b, 0, none⟩) L cr (digs (R / 1000000000)).length Z (by rw [HZ.out.2.2.1]) (by rw [← HL.out]; exact HNX.out.2))
      go_wp2_with fail
      refine TR.out.mono ?_
      rintro e w4 ⟨rfl, rfl⟩
      go_wp2_with fail
      go_roundg (R / 1000000000)
      case measure => have := FACTS.out.1; omega
      case rel => exact ⟨R / 1000000000, C ++ [R % 1000000000], _, cr, Nat.le_refl _, by simp; omega, rfl, HNX.out.1⟩
end Go.Proofs.YtaplbadcpbollaaGreatDoor
