/-
  The law's helpers: own, kept.
-/
import Derived.Test.YtnbmpldfbbidmaaZFrame
import Derived.Test.YtnbmpldfbbidmaaCopied
import Derived.Laws.AppendOwnNone
namespace Go.Proofs.Ytnbmpldfbbidmaa
open Go.RowKit Nt
set_option linter.unusedSimpArgs false
set_option linter.unusedVariables false

theorem invOf1 {A B : Prop} {w w' : World} {g2 : Nat} (h : A ∧ B ∧ Hid (Inv w w' g2)) : Inv w w' g2 := h.2.2
theorem keepS1 {w w1 w2 : World} {a1 a2 : Addr} {v1 v2 : Value} {g2 : Nat}
    (h : w1.cell? a1 = some v1 ∧ w1.cell? a2 = some v2 ∧ Hid (Inv w w1 g2)) (hb : Below w1.heap.size w1 w2) :
    w2.cell? a1 = some v1 ∧ w2.cell? a2 = some v2 ∧ Hid (Inv w w2 g2) :=
  ⟨cell_below h.1 hb, cell_below h.2.1 hb, Inv.call h.2.2 hb⟩
theorem keepSet1 {w w1 : World} {a1 a2 : Addr} {v1 v2 : Value} {g2 : Nat} {b : Bool} {r : Option Addr} {n c : Nat}
    (h : w1.cell? a1 = some v1 ∧ w1.cell? a2 = some v2 ∧ Hid (Inv w w1 g2)) (h1 : g2 ≠ a1.block) (h2 : g2 ≠ a2.block) :
    ((w1.setCell ⟨g2, 0, none⟩ (.bool b)).setCell ⟨g2, 1, none⟩ (.slice r n c)).cell? a1 = some v1 ∧ ((w1.setCell ⟨g2, 0, none⟩ (.bool b)).setCell ⟨g2, 1, none⟩ (.slice r n c)).cell? a2 = some v2 ∧ Hid (Inv w ((w1.setCell ⟨g2, 0, none⟩ (.bool b)).setCell ⟨g2, 1, none⟩ (.slice r n c)) g2) :=
  ⟨far h.1 h1, far h.2.1 h2, Inv.set h.2.2 b r n c⟩

theorem limbs_nine (w : World) : Limbs (w.alloc (.cells #[.int .u32 77, .int .u32 78, .int .u32 79, .int .u32 80, .int .u32 81, .int .u32 82, .int .u32 83, .int .u32 84, .int .u32 85] 30)) (some ⟨w.heap.size, 0, none⟩) [77, 78, 79, 80, 81, 82, 83, 84, 85] :=
  Blk.limbs (show Blk _ _ [77, 78, 79, 80, 81, 82, 83, 84, 85] from heap_alloc_last _ _)

/-- What own makes: a row of its own. -/
structure Cp (w w' : World) (g n cr : Nat) (xs : List Nat) : Prop where
  below : Below w.heap.size w w'
  fresh : w.heap.size ≤ g
  sl : Sl w' (some ⟨g, 0, none⟩) n cr xs
  lt : g < w'.heap.size
theorem Cp.later {w w' w'' : World} {g n cr : Nat} {xs : List Nat} (h : Cp w w' g n cr xs) (hb : Below w'.heap.size w' w'') : Cp w w'' g n cr xs :=
  ⟨h.below.trans (hb.mono h.below.size), h.fresh, h.sl.below hb, Nat.lt_of_lt_of_le h.lt hb.size⟩

theorem own_end {w2 : World} {base : Nat} {v' : Value} {xs : List Nat} {n : Nat} (hn : xs.length = n) (ho : Ok xs) (h : Own w2 base v' (xs ++ [77, 78, 79, 80, 81, 82, 83, 84, 85])) :
    ∃ g cr, v' = .slice (some ⟨g, 0, none⟩) (n + 9) cr ∧ base ≤ g ∧ n + 9 ≤ cr ∧ cr ≤ 9223372036854775807 ∧ g < w2.heap.size ∧ Hid (Sl w2 (some ⟨g, 0, none⟩) n cr xs) := by
  obtain ⟨g, cap, rfl, h1, h2, h3, h4, h5⟩ := h.row (by simp)
  refine ⟨g, cap, by simp [hn], h1, by simpa [hn] using h3, h4, h2, ⟨hn, by simp at h3; omega, h4, (fun e => by cases e), ho, ?_⟩⟩
  have := h5.take n
  rw [List.take_append_of_le_length (by omega), List.take_of_length_le (by omega)] at this
  exact this

set_option maxHeartbeats 4000000 in
theorem own_c (w : World) (s : Bool) (p : Option Addr) (n c : Nat) (xs : List Nat) (h : Sl w p n c xs) (hs : c ≤ 35184372087808) :
    Calls Try.prog 4 #[.agg #[.bool s, .slice p n c]] w fun e w' => ∃ gx cr, e = .returned (.agg #[.bool s, .slice (some ⟨gx, 0, none⟩) n cr]) ∧ Cp w w' gx n cr xs := by
  obtain ⟨W, g, hg, hW, c10, c11, c20, c21, HI⟩ := enter1 w s p n c
  have HX := hid h
  have HXW := hid (h.below HI.out.below)
  have hm := h.max
  have hc := h.cap
  have hcn := h.nil
  unfold maxLen at hm
  have n0 : g + 1 ≠ g := by omega
  clear h c20 c21
  cases p with
  | none =>
    have hc0 : c = 0 := hcn rfl
    subst hc0
    have hn0 : n = 0 := by omega
    subst hn0
    have hx0 : xs = [] := List.length_eq_zero_iff.1 HX.out.len
    subst hx0
    clear hcn
    have hap := append_nils
    go_enter Try.func4, Try.ntmps4
    go_wp2_with (at_builtin; refine append_u32 _ rfl (.tmp 8) (.tmp 9) rfl W.heap.size _ [] rfl (Own.nil _ _) ⟨W.heap.size, 0, none⟩ 9 9 [77, 78, 79, 80, 81, 82, 83, 84, 85] rfl rfl (limbs_nine W) (by simp) (by simp) ?_; intro v' w2 hown' hbel; obtain ⟨gx, cr, rfl, hgx, hcr, hmx, hgl, HC⟩ := own_end (n := 0) rfl Ok.nil hown'; have hBz : Below W.heap.size W w2 := ((Below.refl _ _).alloc (Nat.le_refl _) _).trans hbel; clear hown' hbel)
    have hI2 := hid (HI.out.call hBz)
    replace c10 := cell_below c10 hBz
    replace c11 := cell_below c11 hBz
    have hlt := HI.out.lt
    have i2 : (0 : Int) ≤ (cr : Int) := by omega
    obtain ⟨b3, r3, n3, c3, hx3⟩ := hI2.out.box
    have k0 := hx3.at0
    have k1 := hx3.at1
    have k2 := hx3.frozen 0
    have k3 := hx3.frozen 1
    go_wp2
    go_region_held3 (fun w' => w'.cell? ⟨g, 0, none⟩ = some (.bool s) ∧ w'.cell? ⟨g, 1, none⟩ = some (.slice none 0 0) ∧ Hid (Inv w w' (g + 1)))
      (first | exact keepSet1 (by assumption) n0 n0 | (exact ⟨c10, c11, hI2.out.drew⟩))
      (first | fail)
    go_wp2
    have hc0 := (hx3.set s (some ⟨gx, 0, none⟩) 0 cr).at0
    have hc1 := (hx3.set s (some ⟨gx, 0, none⟩) 0 cr).at1
    refine bodyPost_ret (by simp [results, Try.results4, go_sem, hc0, hc1]; try rfl) rfl ?_
    refine ⟨gx, cr, rfl, (hI2.out.set s _ _ _).below.drew, ?_, (sl_set HC.out (fun b o e => by simp only [Option.some.injEq, Addr.mk.injEq] at e; omega)).below (Below.refl _ _).drew, ?_⟩
    · have := HI.out.below.size
      omega
    · simpa [World.setCell] using hgl
  | some a =>
    clear hcn
    go_enter Try.func4, Try.ntmps4
    go_wp2_with (first
      | (at_builtin; refine append_u32 _ rfl (.tmp 4) (.tmp 6) rfl W.heap.size _ [] rfl (Own.nil _ _) a n c xs rfl HXW.out.len HXW.out.lie (by simp; omega) (Nat.le_refl _) ?_; intro v1 w1 hown1 hbel1; simp only [List.nil_append] at hown1)
      | (at_builtin; refine append_u32 _ rfl (.tmp 8) (.tmp 9) rfl W.heap.size _ xs rfl (hown1.alloc _) ⟨w1.heap.size, 0, none⟩ 9 9 [77, 78, 79, 80, 81, 82, 83, 84, 85] rfl rfl (limbs_nine w1) (by have := HX.out.len; omega) (by have := hbel1.size; simp; omega) ?_; intro v' w2 hown' hbel; obtain ⟨gx, cr, rfl, hgx, hcr, hmx, hgl, HC⟩ := own_end (n := n) HX.out.len HX.out.ok hown'; have hBz : Below W.heap.size W w2 := (hbel1.alloc hbel1.size _).trans hbel; clear hown' hbel hown1 hbel1))
    have hI2 := hid (HI.out.call hBz)
    replace c10 := cell_below c10 hBz
    replace c11 := cell_below c11 hBz
    have hlt := HI.out.lt
    have i1 : (0 : Int) ≤ (n : Int) := by omega
    have i2 : (n : Int) ≤ (cr : Int) := by omega
    have i3 : n ≤ cr := by omega
    obtain ⟨b3, r3, n3, c3, hx3⟩ := hI2.out.box
    have k0 := hx3.at0
    have k1 := hx3.at1
    have k2 := hx3.frozen 0
    have k3 := hx3.frozen 1
    go_wp2
    go_region_held3 (fun w' => w'.cell? ⟨g, 0, none⟩ = some (.bool s) ∧ w'.cell? ⟨g, 1, none⟩ = some (.slice (some a) n c) ∧ Hid (Inv w w' (g + 1)))
      (first | exact keepSet1 (by assumption) n0 n0 | (exact ⟨c10, c11, hI2.out.drew⟩))
      (first | fail)
    go_wp2
    have hc0 := (hx3.set s (some ⟨gx, 0, none⟩) n cr).at0
    have hc1 := (hx3.set s (some ⟨gx, 0, none⟩) n cr).at1
    refine bodyPost_ret (by simp [results, Try.results4, go_sem, hc0, hc1]; try rfl) rfl ?_
    refine ⟨gx, cr, rfl, (hI2.out.set s _ _ _).below.drew, ?_, (sl_set HC.out (fun b o e => by simp only [Option.some.injEq, Addr.mk.injEq] at e; omega)).below (Below.refl _ _).drew, ?_⟩
    · have := HI.out.below.size
      omega
    · simpa [World.setCell] using hgl

end Go.Proofs.Ytnbmpldfbbidmaa
