/-
  What the law's alive calls: the text of -42.
-/
import Derived.Test.YtblmlhhicpomkaaDoorSetB
import Derived.Test.YtblmlhhicpomkaaDoorSetK
import Derived.Test.YtblmlhhicpomkaaDoorSetE
import Derived.Test.YtblmlhhicpomkaaDoorZNum
import Derived.Laws.Append
import Derived.Laws.IdiomStrings
namespace Go.Proofs.YtblmlhhicpomkaaDoor
open Go.RowKit Nt
set_option linter.unusedSimpArgs false
set_option linter.unusedVariables false

set_option maxRecDepth 100000 in
theorem small42 (w : World) : Calls Tryd.prog 58 #[.int .i64 42] w fun e w' => e = .returned (.string ⟨#[52, 50]⟩) ∧ w' = w := by
  go_enter Tryd.func58, Tryd.ntmps58
  go_wp2
  go_ret
  exact ⟨rfl, rfl⟩

/-- Two digits in a row of bytes. -/
def Dg2 (w : World) (g : Nat) (a b : Nat) : Prop := w.cell? ⟨g, 0, none⟩ = some (.int .u8 a) ∧ w.cell? ⟨g, 1, none⟩ = some (.int .u8 b)

theorem two_cells (w : World) (a b : Value) (Z : Array Value) (t : TypeId) :
    (w.alloc (.cells (#[a, b] ++ Z) t)).cell? ⟨w.heap.size, 0, none⟩ = some a ∧ (w.alloc (.cells (#[a, b] ++ Z) t)).cell? ⟨w.heap.size, 1, none⟩ = some b := by
  have hl := heap_alloc_last w (.cells (#[a, b] ++ Z) t)
  constructor
  · simp only [World.cell?]
    rw [hl]
    show (#[a, b] ++ Z)[0]? = _
    rw [Array.getElem?_append_left (by simp)]
    rfl
  · simp only [World.cell?]
    rw [hl]
    show (#[a, b] ++ Z)[1]? = _
    rw [Array.getElem?_append_left (by simp)]
    rfl

theorem one_cell (w : World) (a : Value) (Z : Array Value) (t : TypeId) : (w.alloc (.cells (#[a] ++ Z) t)).drew.cell? ⟨w.heap.size, 0, none⟩ = some a := by
  have hl := heap_alloc_last w (.cells (#[a] ++ Z) t)
  show (w.alloc (.cells (#[a] ++ Z) t)).cell? ⟨w.heap.size, 0, none⟩ = some a
  simp only [World.cell?]
  rw [hl]
  show (#[a] ++ Z)[0]? = _
  rw [Array.getElem?_append_left (by simp)]
  rfl

theorem iapp42 (w : World) : Calls Tryd.prog 52 #[.slice none 0 0, .int .u64 42, .int .i64 10] w fun e w' => ∃ cap, e = .returned (.slice (some ⟨w.heap.size, 0, none⟩) 2 cap) ∧ Dg2 w' w.heap.size 52 50 ∧ Below w.heap.size w w' := by
  have S := hid (small42 w)
  go_enter Tryd.func52, Tryd.ntmps52
  go_wp2_with fail
  refine S.out.mono ?_
  rintro e w' ⟨rfl, rfl⟩
  go_wp2
  go_ret
  refine ⟨_, rfl, ⟨?_, ?_⟩, ((Below.refl _ _).alloc (Nat.le_refl _) _).drew⟩
  · exact (two_cells _ _ _ _ _).1
  · exact (two_cells _ _ _ _ _).2
theorem app42 (w : World) : Calls Tryd.prog 43 #[.slice none 0 0, .int .u64 42, .int .i64 10] w fun e w' => ∃ cap, e = .returned (.slice (some ⟨w.heap.size, 0, none⟩) 2 cap) ∧ Dg2 w' w.heap.size 52 50 ∧ Below w.heap.size w w' := by
  have S := hid (iapp42 w)
  go_enter Tryd.func43, Tryd.ntmps43
  go_wp2_with fail
  refine S.out.mono ?_
  rintro e w' ⟨cap, rfl, h1, h2⟩
  go_wp2
  go_ret
  exact ⟨cap, rfl, h1, h2⟩

theorem append_u32g {ops : Array Oper} {rest : List Oper} {o : Oper} {a : Act} {Q : Exit → Act → World → Prop} (w : World) (hgd : o.guard = none) (s x : Operand)
    (ho : o.op = .call { callee := .builtin .append, args := #[s, x], argTypes := #[22, 22] })
    (base : Nat) (v : Value) (xs : List Nat) (hs : a.eval s = v) (hown : Own w base v xs)
    (ad : Addr) (m c : Nat) (news : List Nat) (hx : a.eval x = .slice (some ad) m c) (hl : news.length = m) (hnews : Limbs w (some ad) news)
    (hb : xs.length + m ≤ 35184372088832) (hbase : base ≤ w.heap.size)
    (h : ∀ v' w', Own w' base v' (xs ++ news) → w.grownBy w' v.ownBlock → wpList Tryd.prog ops Q rest (a.put o.dst v') w') : wpList Tryd.prog ops Q (o :: rest) a w := by
  obtain ⟨i0, hi, hz0, hz1, hz2⟩ := info_parts infoU32
  refine wpList_append_own w hgd s x 22 ho base 43 i0 (.int .u32 0) 1 4 Tryd.underlying22 hi hz0 hz1 hz2 rfl (by decide) v xs.length (U xs) hs hown ad m c (U news) hx (by simp [U, hl]) ?_ (oneCell_U news) (by unfold maxLen; omega) (by omega) hbase ?_
  · intro j u hj
    have hj' : j < news.length := by
      have := (List.getElem?_eq_some_iff.1 hj).1
      simpa [U] using this
    rw [U_get news j hj'] at hj
    obtain ⟨b, o', e, hc⟩ := hnews j hj'
    obtain rfl := Option.some.inj e
    rw [← hj, ← hc]
    rw [addr_add]
  · intro v' w' h1 h2 _
    refine h v' w' ?_ h2
    unfold Own
    rw [U_append, List.length_append, hl]
    exact h1

/-- An empty row of the call's own. -/
theorem Own.empty {w : World} {g base : Nat} (hg : w.heap[g]? = some (.cells #[] 43)) (hb : base ≤ g) : Own w base (.slice (some ⟨g, 0, none⟩) 0 0) [] :=
  ⟨rfl, Or.inr ⟨g, 0, #[], rfl, hb, hg, Nat.le_refl _, by unfold maxLen; omega, rfl, rfl⟩⟩

theorem zero_one {Z : List Nat} (h : Z.length = 1) (hv : val Z = 0) : Z = [0] := by
  match Z, h with
  | [x], _ =>
    simp [val] at hv
    rw [hv]
theorem heap_two {W w1 w : World} {g : Nat} {Z : List Nat} {o : Obj} (h : W.heap[w.heap.size]? = some (.cells #[] 43)) (hw : Wr W (g + 1) (Z ++ []) w1) (hg : w.heap.size = g) : (w1.alloc o).heap[g]? = some (.cells #[] 43) := by
  rw [hg] at h
  have e := (hw.other (k := g) (by omega)).trans h
  rw [← e]
  exact Below.heap_alloc w1 o g (Array.getElem?_eq_some_iff.1 e).1

def lenV : Value → Nat
  | .slice _ n _ => n
  | _ => 0

set_option maxRecDepth 20000 in
set_option maxHeartbeats 4000000 in
theorem text42 (w : World) (p : Option Addr) (n c : Nat) (xs : List Nat) (h : Sl w p n c xs) (hv : val xs = 42) (hs : n ≤ 70368744177664) :
    Calls Tryd.prog 29 #[.slice p n c] w fun e w' => e = .returned (.string ⟨#[52, 50]⟩) ∧ Below w.heap.size w w' := by
  have B1 := below_alloc w (.cells #[] 43)
  have N := norm_c (w.alloc (.cells #[] 43)) p n c xs (h.below B1) hs
  have d42 : digs 42 = [42] := digs_small (by omega) (by omega)
  rw [hv, d42] at N
  have E0 := heap_alloc_last w (.cells #[] 43)
  have B2 := below_alloc (w.alloc (.cells #[] 43)) (.cells (U [42]).toArray 43)
  have E1 : ((w.alloc (.cells #[] 43)).alloc (.cells (U [42]).toArray 43)).heap[w.heap.size]? = some (.cells #[] 43) := (B2.block _ (by simp)).trans E0
  have E2 := heap_alloc_last (w.alloc (.cells #[] 43)) (.cells (U [42]).toArray 43)
  rw [show (w.alloc (.cells #[] 43)).heap.size = w.heap.size + 1 from by simp] at E2 N
  have HB := hid (B1.trans (B2.mono B1.size))
  obtain ⟨W, hW⟩ : ∃ W, (w.alloc (.cells #[] 43)).alloc (.cells (U [42]).toArray 43) = W := ⟨_, rfl⟩
  rw [hW] at N E1 E2 HB
  have HN := hid N
  have hWs : W.heap.size = w.heap.size + 2 := by rw [← hW]; simp
  have HE1 := hid E1
  have HE2 : Hid (Blk W (w.heap.size + 1) [42]) := E2
  obtain ⟨g, hg⟩ : ∃ g, w.heap.size = g := ⟨_, rfl⟩
  clear h N B1 B2 E0 E1 E2 hW hv d42
  go_enter Tryd.func29, Tryd.ntmps29
  go_wp2_with fail
  refine HN.out.mono ?_
  rintro e w' ⟨rfl, rfl⟩
  go_wp2_with fail
  have DIV := divSmall_c w' (g + 1) [42] [] 1 1 1000000000 rfl (Nat.le_refl _) (by unfold maxLen; omega) (by rw [← hg]; exact HE2.out) (Ok.cons (by omega) Ok.nil) (by omega) (by omega)
  rw [show val [42] % 1000000000 = 42 from rfl, show val [42] / 1000000000 = 0 from rfl] at DIV
  have HDIV := hid DIV
  clear DIV
  have hsz : w'.heap.size = g + 2 := by rw [hWs, hg]
  go_loopw [3, 4] (fun ch rs wr => (ch = .slice (some ⟨g, 0, none⟩) 0 0 ∧ rs = .slice (some ⟨g + 1, 0, none⟩) 1 1 ∧ wr = w') ∨ (∃ gc cap, ch = .slice (some ⟨gc, 0, none⟩) 1 cap ∧ rs = .slice (some ⟨g + 1, 0, none⟩) 0 1 ∧ wr.cell? ⟨gc, 0, none⟩ = some (.int .u32 42) ∧ Hid (Below w.heap.size w wr))) (fun _ rs _ => lenV rs)
  case atStart => exact Or.inl ⟨rfl, rfl, rfl⟩
  case round =>
    rcases hrel with ⟨rfl, rfl, rfl⟩ | ⟨gc, cap, rfl, rfl, hcell, HBr⟩
    · go_wp2_with (first
        | (go_at_call 34; refine HDIV.out.mono ?_; rintro e w1 ⟨Z, hZl, hZo, hZv, rfl, hwr⟩; have hZ0 := zero_one hZl hZv; subst hZ0; have HW1 := hid (hwr.below HB.out (by omega)); have TR := hid (fun W2 (hb : Below w1.heap.size w1 W2) => trim_s W2 (some ⟨g + 1, 0, none⟩) 1 1 0 [0] rfl (Sl.below (sl_one (Wr.blk (by rw [← hg]; exact HE2.out) hwr) (by omega)) hb)); have hs1 : w1.heap.size = wr.heap.size := hwr.size; clear hwr hZv hZo hZl)
        | (go_at_call 30; refine (TR.out _ (((Below.refl _ _).alloc (Nat.le_refl _) _).alloc (by simp) _).drew).mono ?_; rintro e w2 ⟨rfl, rfl⟩)
        | fail)
      go_roundw
      case rel =>
        refine Or.inr ⟨_, _, rfl, rfl, ?_, ?_⟩
        · rw [show g + 2 + 1 = (w1.alloc (.cells #[.int .u32 42] 43)).heap.size from by simp; omega]
          exact one_cell _ _ _ _
        · exact ((HW1.out.alloc HW1.out.size _).alloc (by have := HW1.out.size; simp; omega) _).drew
      case measure => simp [lenV]
    · have AP := hid (app42 wr)
      go_wp2_with (go_at_call 43; refine AP.out.mono ?_; rintro e w3 ⟨cap3, rfl, ⟨hd0, hd1⟩, hB3⟩)
      have HB4 := hid (HBr.out.trans (hB3.mono HBr.out.size))
      clear AP hB3
      obtain ⟨wo, rfl⟩ : ∃ wo : World, wo = wr := ⟨_, rfl⟩
      go_loopw [6, 34] (fun out i wz => out = .slice (some ⟨wo.heap.size, 0, none⟩) 2 cap3 ∧ i = .int .i64 0 ∧ wz = w3) (fun _ _ _ => 0)
      case atStart => exact ⟨rfl, rfl, rfl⟩
      case round =>
        obtain ⟨rfl, rfl, rfl⟩ := hrel
        have CV : (convert 69 9 (.slice (some ⟨wo.heap.size, 0, none⟩) 2 cap3)).run Tryd.prog wr = .ok (.string ⟨#[52, 50]⟩) wr := run_convert_bytes_back (P := Tryd.prog) wr 69 9 5 ⟨wo.heap.size, 0, none⟩ cap3 [52, 50] Tryd.underlying69 Tryd.underlying5 Tryd.underlying9 (fun j hj => by
          match j, hj with
          | 0, _ => exact hd0
          | 1, _ => exact hd1)
        go_wp2
        go_ret
        first | exact ⟨rfl, HB4.out⟩ | exact ⟨rfl, by rw [← hg]; exact HB4.out⟩

set_option maxHeartbeats 1000000 in
theorem ztext42 (w : World) (p : Option Addr) (n c : Nat) (xs : List Nat) (h : Sl w p n c xs) (hv : val xs = 42) (hs : n ≤ 70368744177664) :
    Calls Tryd.prog 18 #[.agg #[.bool true, .slice p n c]] w fun e w' => e = .returned (.string ⟨#[45, 52, 50]⟩) ∧ Below w.heap.size w w' := by
  obtain ⟨W, g, hg, hW, c10, c11, HB⟩ := enter1b w true p n c
  have SG := zsign_c W true p n c xs (h.below HB.out) hs
  rw [sign_neg (by rw [hv]; omega)] at SG
  have HS := hid SG
  have HH := hid h
  clear SG h
  go_enter Tryd.func18, Tryd.ntmps18
  go_wp2_with fail
  refine HS.out.mono ?_
  rintro e w1 ⟨rfl, hB1⟩
  replace c11 := cell_below c11 hB1
  have HF := hid (HB.out.trans (hB1.mono HB.out.size))
  have T := hid (text42 w1 p n c xs (HH.out.below HF.out) hv hs)
  clear hB1 hv
  go_wp2_with fail
  refine T.out.mono ?_
  rintro e w2 ⟨rfl, hB2⟩
  have HG := hid (HF.out.trans (hB2.mono HF.out.size))
  clear hB2
  go_wp2
  go_ret
  exact ⟨rfl, HG.out⟩

theorem zof7 (w : World) : Calls Tryd.prog 14 #[.int .i64 (-7)] w fun e w' => ∃ r cr, e = .returned (.agg #[.bool true, .slice r 1 cr]) ∧ Below w.heap.size w w' ∧ Sl w' r 1 cr [7] := by
  refine (zof_c w (-7) (by omega) (by omega)).mono ?_
  rintro e w' ⟨r, cr, rfl, Z⟩
  have d : digs (-7 : Int).natAbs = [7] := digs_small (by decide) (by decide)
  have hs := Z.sl
  rw [d] at hs ⊢
  exact ⟨r, cr, rfl, Z.below, hs⟩
theorem zof6 (w : World) : Calls Tryd.prog 14 #[.int .i64 6] w fun e w' => ∃ r cr, e = .returned (.agg #[.bool false, .slice r 1 cr]) ∧ Below w.heap.size w w' ∧ Sl w' r 1 cr [6] := by
  refine (zof_c w 6 (by omega) (by omega)).mono ?_
  rintro e w' ⟨r, cr, rfl, Z⟩
  have d : digs (6 : Int).natAbs = [6] := digs_small (by decide) (by decide)
  have hs := Z.sl
  rw [d] at hs ⊢
  exact ⟨r, cr, rfl, Z.below, hs⟩

set_option maxHeartbeats 1000000 in
/-- alive: true. -/
theorem alive_c (w : World) : Calls Tryd.prog 4 #[] w fun e w' => e = .returned (.bool true) ∧ Below w.heap.size w w' := by
  have O7 := hid zof7
  have O6 := hid zof6
  go_enter Tryd.func4, Tryd.ntmps4
  go_wp2_with fail
  refine (O7.out _).mono ?_
  rintro e w1 ⟨r1, c1, rfl, B1, S1⟩
  have H1 := hid S1
  have F1 := hid B1
  clear B1 S1
  go_wp2_with fail
  refine (O6.out _).mono ?_
  rintro e w2 ⟨r2, c2, rfl, B2, S2⟩
  have H2 := hid S2
  have H1' := hid (H1.out.below B2)
  have F2 := hid (F1.out.trans (B2.mono F1.out.size))
  have M := zmul_c w2 true false r1 r2 1 c1 1 c2 [7] [6] H1'.out H2.out (by omega)
  have ez : sg true (val [7]) * sg false (val [6]) = -42 := by decide
  rw [ez] at M
  have d : digs (-42 : Int).natAbs = [42] := digs_small (by decide) (by decide)
  have M' : Calls Tryd.prog 10 #[.agg #[.bool true, .slice r1 1 c1], .agg #[.bool false, .slice r2 1 c2]] w2 fun e w' => ∃ r cr, e = .returned (.agg #[.bool true, .slice r 1 cr]) ∧ Below w2.heap.size w2 w' ∧ Sl w' r 1 cr [42] := by
    refine M.mono ?_
    rintro e w' ⟨r, cr, rfl, Z⟩
    have hs := Z.sl
    rw [d] at hs ⊢
    exact ⟨r, cr, rfl, Z.below, hs⟩
  have HM := hid M'
  clear B2 S2 M M' ez d H1
  go_wp2_with fail
  refine HM.out.mono ?_
  rintro e w3 ⟨r3, c3, rfl, B3, S3⟩
  have F3 := hid (F2.out.trans (B3.mono F2.out.size))
  have T := hid (ztext42 w3 r3 1 c3 [42] S3 rfl (by omega))
  clear B3 S3
  go_wp2_with fail
  refine T.out.mono ?_
  rintro e w4 ⟨rfl, B4⟩
  have F4 := hid (F3.out.trans (B4.mono F3.out.size))
  clear B4
  go_wp2
  go_ret
  exact ⟨rfl, F4.out⟩
end Go.Proofs.YtblmlhhicpomkaaDoor
