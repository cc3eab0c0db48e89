/-
  The law's helpers: copied, kept.
-/
import Derived.Test.YtnmhmjbeeagnmaaDoorRefA
import Derived.Test.YtnmhmjbeeagnmaaDoorAwake
namespace Go.Proofs.YtnmhmjbeeagnmaaDoor
open Go.RowKit Nt
set_option linter.unusedSimpArgs false
set_option linter.unusedVariables false

theorem append_nils (W : World) (ty : TypeId) : (Builtin.append_ #[22, 22] ty #[.slice none 0 0, .slice none 0 0]).run Tryd.prog W = .ok (.slice none 0 0) W := by
  obtain ⟨i0, hi, hz0, hz1, hz2⟩ := info_parts infoU32
  exact run_append_owned_none (P := Tryd.prog) W 0 22 ty 27 i0 1 Tryd.underlying22 hi (.slice none 0 0) 0 [] (World.ownsRow_nil _ _ _ _)

theorem Own.row {w : World} {base : Nat} {v : Value} {xs : List Nat} (h : Own w base v xs) (hne : xs ≠ []) :
    ∃ g cap, v = .slice (some ⟨g, 0, none⟩) xs.length cap ∧ base ≤ g ∧ g < w.heap.size ∧ xs.length ≤ cap ∧ cap ≤ maxLen ∧ Limbs w (some ⟨g, 0, none⟩) xs := by
  obtain ⟨h1, h2⟩ := h
  rcases h2 with ⟨rfl, h0⟩ | ⟨g, cap, cur, rfl, hb, hg, hc, hm, hs, ht⟩
  · exact absurd (List.length_eq_zero_iff.1 h0) hne
  · refine ⟨g, cap, rfl, hb, (Array.getElem?_eq_some_iff.1 hg).1, hc, hm, fun i hi => ⟨g, 0, rfl, ?_⟩⟩
    have e : (cur.toList.take (xs.length * 1))[i]? = some (.int .u32 (xs.getD i 0)) := by rw [ht]; exact U_get xs i hi
    rw [List.getElem?_take, if_pos (by omega)] at e
    simp only [World.cell?, hg]
    simpa using e

theorem limbs_three (w : World) : Limbs (w.alloc (.cells #[.int .u32 77, .int .u32 78, .int .u32 79] 27)) (some ⟨w.heap.size, 0, none⟩) [77, 78, 79] :=
  Blk.limbs (show Blk _ _ [77, 78, 79] from heap_alloc_last _ _)

/-- What copied makes: a row of its own: the limbs, then 77, 78, 79. -/
structure Copy (w w' : World) (g n cr : Nat) (xs : List Nat) : Prop where
  below : Below w.heap.size w w'
  fresh : w.heap.size ≤ g
  cap : n + 3 ≤ cr
  max : cr ≤ maxLen
  lie : Limbs w' (some ⟨g, 0, none⟩) (xs ++ [77, 78, 79])

theorem copy_end {w w1 w2 : World} {v' : Value} {xs : List Nat} {n : Nat} (hn : xs.length = n) (ho : Own w2 w.heap.size v' (xs ++ [77, 78, 79])) (hb : Below w.heap.size w w2) :
    ∃ g cr, v' = .slice (some ⟨g, 0, none⟩) (n + 3) cr ∧ Copy w w2 g n cr xs := by
  obtain ⟨g, cap, rfl, h1, h2, h3, h4, h5⟩ := ho.row (by simp)
  refine ⟨g, cap, by simp [hn], hb, h1, by simpa [hn] using h3, h4, h5⟩

theorem copy_end' {w w2 : World} {v' : Value} {xs : List Nat} {n : Nat} (hn : xs.length = n) (ho : Own w2 w.heap.size v' (xs ++ [77, 78, 79])) (hb : Below w.heap.size w w2) :
    ∃ g cr, v' = .slice (some ⟨g, 0, none⟩) (n + 3) cr ∧ Hid (Copy w w2 g n cr xs) ∧ n + 3 ≤ cr ∧ cr ≤ 2 ^ 63 - 1 := by
  obtain ⟨g, cr, h1, h2⟩ := copy_end (w := w) (w1 := w) hn ho hb
  exact ⟨g, cr, h1, h2, h2.cap, h2.max⟩

set_option maxHeartbeats 1000000 in
theorem copied_c (w : World) (p : Option Addr) (n c : Nat) (xs : List Nat) (h : Sl w p n c xs) (hs : c ≤ 35184372087808) :
    Calls Tryd.prog 4 #[.slice p n c] w fun e w' => ∃ g cr, e = .returned (.slice (some ⟨g, 0, none⟩) n cr) ∧ Copy w w' g n cr xs := by
  have HX := hid h
  have hm := h.max
  have hc := h.cap
  have hcn := h.nil
  unfold maxLen at hm
  clear h
  cases p with
  | none =>
    have hc0 : c = 0 := hcn rfl
    subst hc0
    have hn0 : n = 0 := by omega
    subst hn0
    have hx0 : xs = [] := List.length_eq_zero_iff.1 HX.out.len
    subst hx0
    clear hcn
    have hap := append_nils
    go_enter Tryd.func4, Tryd.ntmps4
    go_wp2_with (at_builtin; refine append_u32 _ rfl (.tmp 7) (.tmp 8) rfl w.heap.size _ [] rfl (Own.nil _ _) ⟨w.heap.size, 0, none⟩ 3 3 [77, 78, 79] rfl rfl (limbs_three w) (by simp) (by simp) ?_; intro v' w2 hown' hbel; obtain ⟨g, cr, rfl, HC, hcap, hmax⟩ := copy_end' (w := w) (n := 0) rfl hown' (((Below.refl _ _).alloc (Nat.le_refl _) _).trans hbel); clear hown' hbel)
    go_ret
    exact ⟨g, cr, rfl, HC.out⟩
  | some a =>
    clear hcn
    go_enter Tryd.func4, Tryd.ntmps4
    go_wp2_with (first
      | (at_builtin; refine append_u32 _ rfl (.tmp 4) (.tmp 5) rfl w.heap.size _ [] rfl (Own.nil _ _) a n c xs rfl HX.out.len HX.out.lie (by simp; omega) (Nat.le_refl _) ?_; intro v1 w1 hown1 hbel1; simp only [List.nil_append] at hown1)
      | (at_builtin; refine append_u32 _ rfl (.tmp 7) (.tmp 8) rfl w.heap.size _ xs rfl (hown1.alloc _) ⟨w1.heap.size, 0, none⟩ 3 3 [77, 78, 79] rfl rfl (limbs_three w1) (by have := HX.out.len; omega) (by have := hbel1.size; simp; omega) ?_; intro v' w2 hown' hbel; obtain ⟨g, cr, rfl, HC, hcap, hmax⟩ := copy_end' (w := w) HX.out.len hown' ((hbel1.alloc hbel1.size _).trans hbel); clear hown' hbel hown1 hbel1))
    go_ret
    exact ⟨g, cr, rfl, HC.out⟩
theorem Copy.sl {w w' : World} {g n cr : Nat} {xs : List Nat} (h : Copy w w' g n cr xs) (ho : Ok xs) (hn : xs.length = n) : Sl w' (some ⟨g, 0, none⟩) n cr xs :=
  ⟨hn, by have := h.cap; omega, h.max, (fun e => by cases e), ho, by
    have := h.lie.take xs.length
    rwa [List.take_left] at this⟩
theorem Copy.later {w w' w'' : World} {g n cr : Nat} {xs : List Nat} (h : Copy w w' g n cr xs) (hb : Below w'.heap.size w' w'') : Copy w w'' g n cr xs :=
  ⟨h.below.trans (hb.mono h.below.size), h.fresh, h.cap, h.max, h.lie.below hb⟩

set_option maxHeartbeats 1000000 in
/-- kept, of what copied made, where nothing has been written there since. -/
theorem kept_c (w0 w : World) (g n cr : Nat) (xs : List Nat) (q : Option Addr) (d : Nat) (hc : Copy w0 w g n cr xs) (h : Sl w q n d xs) (hd : d ≤ 35184372087808) :
    Calls Tryd.prog 10 #[.slice (some ⟨g, 0, none⟩) n cr, .slice q n d] w fun e w' => e = .returned (.bool true) ∧ ∃ nq, w' = w.drewN nq := by
  have hcap := hc.cap
  have hmax := hc.max
  have hnd := h.cap
  have S := hid (same_c w (some ⟨g, 0, none⟩) q n cr n d xs (hc.sl h.ok h.len) h)
  have hl := h.len
  have hg : ∀ i, i < n + 3 → w.cell? ⟨g, i, none⟩ = some (.int .u32 ((xs ++ [77, 78, 79]).getD i 0)) := by
    intro i hi
    obtain ⟨b, o, e, hcc⟩ := hc.lie i (by simp; omega)
    simp only [Option.some.injEq, Addr.mk.injEq] at e
    obtain ⟨rfl, rfl, _⟩ := e
    simpa using hcc
  have c0 : w.cell? ⟨g, n, none⟩ = some (.int .u32 77) := by rw [hg n (by omega)]; simp [← hl]
  have c1 : w.cell? ⟨g, n + 1, none⟩ = some (.int .u32 78) := by rw [hg (n + 1) (by omega)]; simp [← hl]
  have c2 : w.cell? ⟨g, n + 2, none⟩ = some (.int .u32 79) := by rw [hg (n + 2) (by omega)]; simp [← hl]
  unfold maxLen at hmax
  clear hg hl h hc
  go_enter Tryd.func10, Tryd.ntmps10
  go_wp2_with fail
  refine S.out.mono ?_
  rintro e w' ⟨rfl, nq, rfl⟩
  go_wp2
  go_ret
  exact ⟨rfl, dr1 _ _⟩
end Go.Proofs.YtnmhmjbeeagnmaaDoor
