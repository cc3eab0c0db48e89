import Derived.Test.YtgalppimdmjdcaaGreatSetE
import Derived.Test.YtgalppimdmjdcaaGreatZNum
import Derived.Test.YtgalppimdmjdcaaGreatSetB
/-
  Quotients: the floor of A / B and what is left; zint.Floor.
-/
namespace Go.Proofs.YtgalppimdmjdcaaGreat
open Go.RowKit Nt
set_option linter.unusedSimpArgs false
set_option linter.unusedVariables false
set_option maxRecDepth 20000

/-- The floor of A / B. -/
def fl (A B : Int) : Int := if 0 < B then A / B else (-A) / (-B)
/-- What is left. -/
def rm (A B : Int) : Int := A - fl A B * B
theorem fl_unique {A B q r : Int} (hB : B ≠ 0) (e : A = q * B + r) (h1 : 0 < B → 0 ≤ r ∧ r < B) (h2 : B < 0 → B < r ∧ r ≤ 0) : fl A B = q ∧ rm A B = r := by
  have key : fl A B = q := by
    unfold fl
    by_cases hp : 0 < B
    · rw [if_pos hp]
      have := h1 hp
      exact ((Int.ediv_emod_unique hp).2 ⟨by rw [Int.mul_comm]; omega, this.1, this.2⟩).1
    · rw [if_neg hp]
      have hn : B < 0 := by omega
      have := h2 hn
      refine ((Int.ediv_emod_unique (r := -r) (by omega)).2 ⟨?_, by omega, by omega⟩).1
      rw [Int.mul_comm, Int.mul_neg]
      omega
  refine ⟨key, ?_⟩
  unfold rm
  rw [key]
  omega

theorem floor_plain (s t : Bool) (x y : Nat) (hy : y ≠ 0) (h : s = t ∨ x % y = 0) : fl (sg s x) (sg t y) = sg (s != t) (x / y) ∧ rm (sg s x) (sg t y) = sg t (x % y) := by
  have hlt := Nat.mod_lt x (Nat.pos_of_ne_zero hy)
  have e : ((y * (x / y) + x % y : Nat) : Int) = (x : Int) := by rw [Nat.div_add_mod]
  rw [Int.natCast_add, Int.natCast_mul] at e
  obtain ⟨q, hq⟩ : ∃ q, x / y = q := ⟨_, rfl⟩
  obtain ⟨r, hr⟩ : ∃ r, x % y = r := ⟨_, rfl⟩
  rw [hq, hr] at e ⊢
  rw [hr] at hlt h
  rw [Int.mul_comm] at e
  refine fl_unique ?_ ?_ ?_ ?_
  · cases t <;> simp [sg] <;> omega
  · cases s <;> cases t <;> simp [sg, Int.neg_mul, Int.mul_neg] at * <;> omega
  · cases t <;> simp [sg] <;> omega
  · cases t <;> simp [sg] <;> omega
theorem floor_up (s t : Bool) (x y : Nat) (hy : y ≠ 0) (h : s ≠ t) (h0 : x % y ≠ 0) : fl (sg s x) (sg t y) = sg (s != t) (x / y + 1) ∧ rm (sg s x) (sg t y) = sg t (y - x % y) := by
  have hlt := Nat.mod_lt x (Nat.pos_of_ne_zero hy)
  have e : ((y * (x / y) + x % y : Nat) : Int) = (x : Int) := by rw [Nat.div_add_mod]
  rw [Int.natCast_add, Int.natCast_mul] at e
  obtain ⟨q, hq⟩ : ∃ q, x / y = q := ⟨_, rfl⟩
  obtain ⟨r, hr⟩ : ∃ r, x % y = r := ⟨_, rfl⟩
  rw [hq, hr] at e ⊢
  rw [hr] at hlt h0
  rw [Int.mul_comm] at e
  have e2 : ((y - r : Nat) : Int) = (y : Int) - r := by omega
  refine fl_unique ?_ ?_ ?_ ?_
  · cases t <;> simp [sg] <;> omega
  · cases s <;> cases t <;> simp [sg, Int.neg_mul, Int.mul_neg, Int.add_mul, e2] at * <;> omega
  · cases t <;> simp [sg, e2] <;> omega
  · cases t <;> simp [sg, e2] <;> omega

theorem boxFar {w : World} {b b' n c : Nat} {neg : Bool} {p : Option Addr} {v0 v1 : Value} (h : Box w b neg p n c) (hb : b ≠ b') : Box ((w.setCell ⟨b', 0, none⟩ v0).setCell ⟨b', 1, none⟩ v1) b neg p n c := by
  show _ = _
  rw [Below.heap_setCell _ _ _ _ (by simpa using hb), Below.heap_setCell _ _ _ _ (by simpa using hb)]
  exact h

/-- What stays true on the way to two structs that are handed back. -/
structure Inv2 (w w' : World) (g2 g3 : Nat) : Prop where
  below : Below w.heap.size w w'
  box2 : ∃ b r n c, Box w' g2 b r n c
  box3 : ∃ b r n c, Box w' g3 b r n c
  fresh : w.heap.size ≤ g2
  next : g2 < g3
theorem Inv2.drew {w w' : World} {g2 g3 : Nat} (h : Inv2 w w' g2 g3) : Inv2 w w'.drew g2 g3 := ⟨h.below.drew, h.box2, h.box3, h.fresh, h.next⟩
theorem Inv2.call {w w' w'' : World} {g2 g3 : Nat} (h : Inv2 w w' g2 g3) (hb : Below w'.heap.size w' w'') : Inv2 w w'' g2 g3 := by
  obtain ⟨b, r, n, c, hx⟩ := h.box2
  obtain ⟨b', r', n', c', hx'⟩ := h.box3
  exact ⟨h.below.trans (hb.mono h.below.size), ⟨b, r, n, c, hx.below hb⟩, ⟨b', r', n', c', hx'.below hb⟩, h.fresh, h.next⟩
theorem Inv2.lt {w w' : World} {g2 g3 : Nat} (h : Inv2 w w' g2 g3) : g3 < w'.heap.size := by
  obtain ⟨b', r', n', c', hx'⟩ := h.box3
  exact hx'.lt
theorem Inv2.set2 {w w' : World} {g2 g3 : Nat} (h : Inv2 w w' g2 g3) (b : Bool) (r : Option Addr) (n c : Nat) : Inv2 w ((w'.setCell ⟨g2, 0, none⟩ (.bool b)).setCell ⟨g2, 1, none⟩ (.slice r n c)) g2 g3 := by
  obtain ⟨b0, r0, n0, c0, hx⟩ := h.box2
  obtain ⟨b', r', n', c', hx'⟩ := h.box3
  exact ⟨(h.below.setCell h.fresh _).setCell h.fresh _, ⟨_, _, _, _, hx.set b r n c⟩, ⟨_, _, _, _, boxFar hx' (by have := h.next; omega)⟩, h.fresh, h.next⟩
theorem Inv2.set3 {w w' : World} {g2 g3 : Nat} (h : Inv2 w w' g2 g3) (b : Bool) (r : Option Addr) (n c : Nat) : Inv2 w ((w'.setCell ⟨g3, 0, none⟩ (.bool b)).setCell ⟨g3, 1, none⟩ (.slice r n c)) g2 g3 := by
  obtain ⟨b0, r0, n0, c0, hx⟩ := h.box2
  obtain ⟨b', r', n', c', hx'⟩ := h.box3
  have h3 : w.heap.size ≤ g3 := Nat.le_trans h.fresh (Nat.le_of_lt h.next)
  exact ⟨(h.below.setCell h3 _).setCell h3 _, ⟨_, _, _, _, boxFar hx (by have := h.next; omega)⟩, ⟨_, _, _, _, hx'.set b r n c⟩, h.fresh, h.next⟩

/-- Into a call of two numbers that hands two back. -/
theorem enter22 (w : World) (s : Bool) (p : Option Addr) (n c : Nat) (t : Bool) (q : Option Addr) (m d : Nat) :
    ∃ W g, w.heap.size = g ∧ (((w.alloc (.cells #[.bool s, .slice p n c] 27)).alloc (.cells #[.bool t, .slice q m d] 27)).alloc (.cells #[.bool false, .slice none 0 0] 27)).alloc (.cells #[.bool false, .slice none 0 0] 27) = W ∧
      W.cell? ⟨g, 0, none⟩ = some (.bool s) ∧ W.cell? ⟨g, 1, none⟩ = some (.slice p n c) ∧ W.cell? ⟨g + 1, 0, none⟩ = some (.bool t) ∧ W.cell? ⟨g + 1, 1, none⟩ = some (.slice q m d) ∧ Hid (Inv2 w W (g + 1 + 1) (g + 1 + 1 + 1)) := by
  obtain ⟨W, g, hg, hW, a1, a2, a3, a4, _, _, HI⟩ := enter2 w s p n c t q m d
  have B4 := below_alloc W (.cells #[.bool false, .slice none 0 0] 27)
  have X4 := box_alloc W false none 0 0
  have hs : W.heap.size = g + 1 + 1 + 1 := by rw [← hW]; simp; omega
  rw [hs] at X4
  obtain ⟨b, r, n', c', hx⟩ := HI.out.box
  exact ⟨_, g, hg, by rw [hW], cell_below a1 B4, cell_below a2 B4, cell_below a3 B4, cell_below a4 B4, HI.out.below.trans (B4.mono HI.out.below.size), ⟨_, _, _, _, hx.below B4⟩, ⟨_, _, _, _, X4⟩, HI.out.fresh, by omega⟩
end Go.Proofs.YtgalppimdmjdcaaGreat

/-
  zint.Floor, whole.
-/
namespace Go.Proofs.YtgalppimdmjdcaaGreat
open Go.RowKit Nt
set_option linter.unusedSimpArgs false
set_option linter.unusedVariables false
set_option maxRecDepth 20000

theorem invF {A B : Prop} {w w' : World} {g2 g3 : Nat} (h : A ∧ B ∧ Hid (Inv2 w w' g2 g3)) : Inv2 w w' g2 g3 := h.2.2
theorem keepF {w w1 w2 : World} {a1 a2 : Addr} {v1 v2 : Value} {g2 g3 : Nat} (h : w1.cell? a1 = some v1 ∧ w1.cell? a2 = some v2 ∧ Hid (Inv2 w w1 g2 g3)) (hb : Below w1.heap.size w1 w2) :
    w2.cell? a1 = some v1 ∧ w2.cell? a2 = some v2 ∧ Hid (Inv2 w w2 g2 g3) := ⟨cell_below h.1 hb, cell_below h.2.1 hb, Inv2.call h.2.2 hb⟩
theorem keepF2 {w w1 : World} {a1 a2 : Addr} {v1 v2 : Value} {g2 g3 : Nat} {b : Bool} {r : Option Addr} {n c : Nat} (h : w1.cell? a1 = some v1 ∧ w1.cell? a2 = some v2 ∧ Hid (Inv2 w w1 g2 g3)) (h1 : g2 ≠ a1.block) (h2 : g2 ≠ a2.block) :
    ((w1.setCell ⟨g2, 0, none⟩ (.bool b)).setCell ⟨g2, 1, none⟩ (.slice r n c)).cell? a1 = some v1 ∧ ((w1.setCell ⟨g2, 0, none⟩ (.bool b)).setCell ⟨g2, 1, none⟩ (.slice r n c)).cell? a2 = some v2 ∧ Hid (Inv2 w ((w1.setCell ⟨g2, 0, none⟩ (.bool b)).setCell ⟨g2, 1, none⟩ (.slice r n c)) g2 g3) :=
  ⟨far h.1 h1, far h.2.1 h2, Inv2.set2 h.2.2 b r n c⟩
theorem keepF3 {w w1 : World} {a1 a2 : Addr} {v1 v2 : Value} {g2 g3 : Nat} {b : Bool} {r : Option Addr} {n c : Nat} (h : w1.cell? a1 = some v1 ∧ w1.cell? a2 = some v2 ∧ Hid (Inv2 w w1 g2 g3)) (h1 : g3 ≠ a1.block) (h2 : g3 ≠ a2.block) :
    ((w1.setCell ⟨g3, 0, none⟩ (.bool b)).setCell ⟨g3, 1, none⟩ (.slice r n c)).cell? a1 = some v1 ∧ ((w1.setCell ⟨g3, 0, none⟩ (.bool b)).setCell ⟨g3, 1, none⟩ (.slice r n c)).cell? a2 = some v2 ∧ Hid (Inv2 w ((w1.setCell ⟨g3, 0, none⟩ (.bool b)).setCell ⟨g3, 1, none⟩ (.slice r n c)) g2 g3) :=
  ⟨far h.1 h1, far h.2.1 h2, Inv2.set3 h.2.2 b r n c⟩

theorem digs_succ_len {x y n : Nat} (h : (digs (x / y)).length ≤ n) (hx : (digs x).length ≤ n) (h0 : x % y ≠ 0) : (digs (x / y + 1)).length ≤ n + 1 := by
  have h1 : 1 ≤ n := by
    apply Classical.byContradiction
    intro hc
    have : (digs x).length = 0 := by omega
    have := (digs_length_zero x).1 this
    subst this
    simp at h0
  exact digs_add_len h (Nat.le_trans (by rw [digs_small (by omega) (by omega)]; simp) h1)

/-- Two numbers, and no error. -/
def Fl2 (w : World) (A B : Int) (k k' : Nat) (e : Ending) (w' : World) : Prop := ∃ (bq : Bool) (Lq : Nat) (Dq : List Nat) (rq : Option Addr) (cq : Nat) (br : Bool) (Lr : Nat) (Dr : List Nat) (rr : Option Addr) (cr : Nat),
  e = .returned (.tuple #[.agg #[.bool bq, .slice rq Lq cq], .agg #[.bool br, .slice rr Lr cr], .int .i64 0]) ∧ Below w.heap.size w w' ∧ Hid (Sl w' rq Lq cq Dq) ∧ Hid (Sl w' rr Lr cr Dr) ∧ Hid (Nm bq Lq Dq (fl A B)) ∧ Hid (Nm br Lr Dr (rm A B)) ∧ Lq ≤ k ∧ Lr ≤ k' ∧ Hid (∀ b o, rq = some ⟨b, o, none⟩ → w.heap.size ≤ b) ∧ Hid (∀ b o, rr = some ⟨b, o, none⟩ → w.heap.size ≤ b)

theorem fl2_of {w : World} {A B : Int} {k k' q r : Nat} {sq sr : Bool} (hq : fl A B = sg sq q) (hr : rm A B = sg sr r) (lq : (digs q).length ≤ k) (lr : (digs r).length ≤ k') :
    ∀ (rq rr : Option Addr) (cq cr : Nat) (e : Ending) (w' : World), e = .returned (.tuple #[.agg #[.bool (sq && decide (0 < (digs q).length)), .slice rq (digs q).length cq], .agg #[.bool (sr && decide (0 < (digs r).length)), .slice rr (digs r).length cr], .int .i64 0]) → Below w.heap.size w w' →
      Sl w' rq (digs q).length cq (digs q) → Sl w' rr (digs r).length cr (digs r) → (∀ b o, rq = some ⟨b, o, none⟩ → w.heap.size ≤ b) → (∀ b o, rr = some ⟨b, o, none⟩ → w.heap.size ≤ b) → Fl2 w A B k k' e w' := by
  intro rq rr cq cr e w' he hb h1 h2 fq fr
  refine ⟨_, _, digs q, rq, cq, _, _, digs r, rr, cr, he, hb, h1, h2, ?_, ?_, lq, lr, fq, fr⟩
  · rw [hq]
    exact ⟨sg_ng sq q, by rw [sg_abs], rfl⟩
  · rw [hr]
    exact ⟨sg_ng sr r, by rw [sg_abs], rfl⟩

end Go.Proofs.YtgalppimdmjdcaaGreat
