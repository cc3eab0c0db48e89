import Derived.Test.YtdhjgekbocnnkaaDoorSetA
import Derived.Test.YtdhjgekbocnnkaaDoorSetD
/-
  The law's own helpers: same, awake; and what awake calls: word, ofWord, Div of small numbers, Text of 0.
-/
namespace Go.Proofs.YtdhjgekbocnnkaaDoor
open Go.RowKit Nt
set_option linter.unusedSimpArgs false
set_option linter.unusedVariables false
set_option maxRecDepth 20000

theorem or64 (a b : Nat) (ha : a < 4294967296) (hb : b < 4294967296) : bits .or .u64 (a : Int) ((b : Int) * 4294967296) = ((a + 4294967296 * b : Nat) : Int) := by
  have e : ((b : Int) * 4294967296) = ((b * 4294967296 : Nat) : Int) := by omega
  rw [e, u64_or_nat a (b * 4294967296) (by omega) (by omega)]
  have : a ||| b * 4294967296 = b * 4294967296 + a := by
    rw [Nat.or_comm, show (4294967296 : Nat) = 2 ^ 32 from rfl, ← Nat.shiftLeft_eq, Nat.shiftLeft_add_eq_or_of_lt (by omega)]
  rw [this]
  omega
theorem or64_zero (b : Nat) (hb : b < 4294967296) : bits .or .u64 0 (b : Int) = (b : Int) := by
  have := u64_or_nat 0 b (by omega) (by omega)
  simpa using this
/-- the other way round -/
theorem or64' (a b : Nat) (ha : a < 4294967296) (hb : b < 4294967296) : bits .or .u64 ((b : Int) * 4294967296) (a : Int) = ((a + 4294967296 * b : Nat) : Int) := by
  have e : ((b : Int) * 4294967296) = ((b * 4294967296 : Nat) : Int) := by omega
  rw [e, u64_or_nat (b * 4294967296) a (by omega) (by omega)]
  have : b * 4294967296 ||| a = b * 4294967296 + a := by
    rw [show (4294967296 : Nat) = 2 ^ 32 from rfl, ← Nat.shiftLeft_eq, Nat.shiftLeft_add_eq_or_of_lt (by omega)]
  rw [this]
  omega

theorem heap_alloc_old' (w : World) (o : Obj) (k : Nat) (h : k < w.heap.size) : (w.alloc o).heap[k]? = w.heap[k]? := Below.heap_alloc w o k h

theorem blk_one {w : World} {g x : Nat} {z : Int} (hz : z = x) (h : w.heap[g]? = some (.cells #[.int .u32 z] 63 (0, 0))) : Blk w g [x] := by
  subst hz
  exact h

theorem sl_one {w : World} {g x : Nat} (h : Blk w g [x]) (hx : x < 4294967296) : Sl w (some ⟨g, 0, none⟩) 1 1 [x] := ⟨rfl, by omega, by unfold maxLen; omega, (fun e => by cases e), Ok.cons hx Ok.nil, h.limbs⟩

theorem digs_small {x : Nat} (h0 : x ≠ 0) (hx : x < 4294967296) : digs x = [x] := by
  have := digs_of (xs := [x]) (Ok.cons hx Ok.nil) (Or.inr (by simpa using h0))
  rwa [val_one] at this

theorem val_lt_two {xs : List Nat} (ho : Ok xs) (h : xs.length ≤ 2) : val xs < 18446744073709551616 := by
  have h1 := val_lt ho
  have h2 : 4294967296 ^ xs.length ≤ 4294967296 ^ 2 := Nat.pow_le_pow_right (by omega) h
  omega

end Go.Proofs.YtdhjgekbocnnkaaDoor

/-
  The calls of nat as calls on numbers: whatever limbs an argument has, what counts is what it is worth.
-/
namespace Go.Proofs.YtdhjgekbocnnkaaDoor
open Go.RowKit Nt
set_option linter.unusedSimpArgs false
set_option linter.unusedVariables false
set_option maxRecDepth 20000

/-- The slice is worth a. -/
def Num (w : World) (p : Option Addr) (n c a : Nat) : Prop := ∃ xs, Sl w p n c xs ∧ val xs = a
theorem Sl.num {w : World} {p : Option Addr} {n c : Nat} {xs : List Nat} (h : Sl w p n c xs) : Num w p n c (val xs) := ⟨xs, h, rfl⟩
theorem Sl.numd {w : World} {p : Option Addr} {n c a : Nat} (h : Sl w p n c (Nt.digs a)) : Num w p n c a := ⟨_, h, val_digs a⟩
theorem Num.below {w w' : World} {p : Option Addr} {n c a : Nat} (h : Num w p n c a) (hb : Below w.heap.size w w') : Num w' p n c a := by
  obtain ⟨xs, h1, h2⟩ := h
  exact ⟨xs, h1.below hb, h2⟩
theorem Num.dl {w : World} {p : Option Addr} {n c a : Nat} (h : Num w p n c a) : (digs a).length ≤ n := by
  obtain ⟨xs, h1, rfl⟩ := h
  exact h1.dl
theorem Num.cast {w : World} {p : Option Addr} {n c a b : Nat} (h : Num w p n c a) (e : a = b) : Num w p n c b := e ▸ h

theorem digs_add_len {a b k : Nat} (h1 : (digs a).length ≤ k) (h2 : (digs b).length ≤ k) : (digs (a + b)).length ≤ k + 1 := by
  apply digs_length_le
  have a1 := Nat.lt_of_lt_of_le (lt_pow_digs a) (Nat.pow_le_pow_right (n := 4294967296) (by omega) h1)
  have a2 := Nat.lt_of_lt_of_le (lt_pow_digs b) (Nat.pow_le_pow_right (n := 4294967296) (by omega) h2)
  rw [Nat.pow_succ]
  omega
theorem digs_mul_len {a b k l : Nat} (h1 : (digs a).length ≤ k) (h2 : (digs b).length ≤ l) : (digs (a * b)).length ≤ k + l := by
  apply digs_length_le
  have a1 := Nat.lt_of_lt_of_le (lt_pow_digs a) (Nat.pow_le_pow_right (n := 4294967296) (by omega) h1)
  have a2 := Nat.lt_of_lt_of_le (lt_pow_digs b) (Nat.pow_le_pow_right (n := 4294967296) (by omega) h2)
  rw [Nat.pow_add]
  exact Nat.mul_lt_mul'' a1 a2

theorem add_n (w : World) (p q : Option Addr) (n c m d a b : Nat) (h : Num w p n c a) (h' : Num w q m d b) (k : Nat) (hk : n ≤ k) (hk' : m ≤ k) (hs : k ≤ 70368744177663) :
    Calls Tryd.prog 98 #[.slice p n c, .slice q m d] w fun e w' => ∃ r cr, e = .returned (.slice r (digs (a + b)).length cr) ∧ Res w w' r cr (a + b) ∧ (digs (a + b)).length ≤ k + 1 := by
  have l1 := h.dl
  have l2 := h'.dl
  obtain ⟨xs, h1, rfl⟩ := h
  obtain ⟨ys, h2, rfl⟩ := h'
  refine (add_c w p q n c m d xs ys h1 h2 (by omega) (by omega)).mono ?_
  rintro e w' ⟨r, cr, rfl, R⟩
  exact ⟨r, cr, rfl, R, digs_add_len (by omega) (by omega)⟩

theorem mul_n (w : World) (p q : Option Addr) (n c m d a b : Nat) (h : Num w p n c a) (h' : Num w q m d b) (k : Nat) (hk : n + m ≤ k) (hs : k ≤ 70368744177664) :
    Calls Tryd.prog 61 #[.slice p n c, .slice q m d] w fun e w' => ∃ r cr, e = .returned (.slice r (digs (a * b)).length cr) ∧ Res w w' r cr (a * b) ∧ (digs (a * b)).length ≤ k := by
  have l1 := h.dl
  have l2 := h'.dl
  obtain ⟨xs, h1, rfl⟩ := h
  obtain ⟨ys, h2, rfl⟩ := h'
  refine (mul_c w p q n c m d xs ys h1 h2 (by omega)).mono ?_
  rintro e w' ⟨r, cr, rfl, R⟩
  exact ⟨r, cr, rfl, R, Nat.le_trans (digs_mul_len l1 l2) hk⟩

theorem sub_n (w : World) (p q : Option Addr) (n c m d a b : Nat) (h : Num w p n c a) (h' : Num w q m d b) (hle : b ≤ a) (k : Nat) (hk : n ≤ k) (hs : k ≤ 70368744177664) :
    Calls Tryd.prog 99 #[.slice p n c, .slice q m d] w fun e w' => ∃ r cr, e = .returned (.tuple #[.slice r (digs (a - b)).length cr, .int .i64 0]) ∧ Res w w' r cr (a - b) ∧ (digs (a - b)).length ≤ k := by
  have l1 := h.dl
  obtain ⟨xs, h1, rfl⟩ := h
  obtain ⟨ys, h2, rfl⟩ := h'
  refine (sub_c w p q n c m d xs ys h1 h2 (by omega) hle).mono ?_
  rintro e w' ⟨r, cr, rfl, R⟩
  exact ⟨r, cr, rfl, R, Nat.le_trans (digs_length_mono (Nat.sub_le _ _)) (by omega)⟩

theorem norm_n (w : World) (p : Option Addr) (n c a : Nat) (h : Num w p n c a) (k : Nat) (hk : n ≤ k) (hs : k ≤ 70368744177664) :
    Calls Tryd.prog 65 #[.slice p n c] w fun e w' => ∃ r cr, e = .returned (.slice r (digs a).length cr) ∧ Res w w' r cr a ∧ (digs a).length ≤ k := by
  have l1 := h.dl
  obtain ⟨xs, h1, rfl⟩ := h
  refine (norm_c w p n c xs h1 (by omega)).mono ?_
  rintro e w' ⟨rfl, rfl⟩
  exact ⟨_, _, rfl, Res.row ((Below.refl _ _).alloc (Nat.le_refl _) _) (heap_alloc_last _ _) (ok_digs _) (val_digs _) (Nat.le_refl _) rfl (by unfold maxLen; omega), by omega⟩

theorem cmp_n (w : World) (p q : Option Addr) (n c m d a b : Nat) (h : Num w p n c a) (h' : Num w q m d b) :
    Calls Tryd.prog 60 #[.slice p n c, .slice q m d] w fun e w' => e = .returned (.int .i64 (cmpN a b)) ∧ ∃ nq, w' = w.drewN nq := by
  obtain ⟨xs, h1, rfl⟩ := h
  obtain ⟨ys, h2, rfl⟩ := h'
  exact cmp_s w p q n c m d xs ys h1 h2

end Go.Proofs.YtdhjgekbocnnkaaDoor

/-
  The law's helpers: copied, kept.
-/
namespace Go.Proofs.YtdhjgekbocnnkaaDoor
open Go.RowKit Nt
set_option linter.unusedSimpArgs false
set_option linter.unusedVariables false
set_option maxRecDepth 20000

theorem append_nils (W : World) (ty : TypeId) : (Builtin.append_ #[34, 34] ty #[.slice none 0 0, .slice none 0 0]).run Tryd.prog W = .ok (.slice none 0 0) W := by
  obtain ⟨i0, hi, hz0, hz1, hz2⟩ := info_parts infoU32
  exact run_append_owned_none (P := Tryd.prog) W 0 34 ty 63 i0 1 Tryd.underlying34 hi (.slice none 0 0) 0 [] (World.ownsRow_nil _ _ _ _)

theorem Own.row {w : World} {base : Nat} {v : Value} {xs : List Nat} (h : Own w base v xs) (hne : xs ≠ []) :
    ∃ g cap, v = .slice (some ⟨g, 0, none⟩) xs.length cap ∧ base ≤ g ∧ g < w.heap.size ∧ xs.length ≤ cap ∧ cap ≤ maxLen ∧ Limbs w (some ⟨g, 0, none⟩) xs := by
  obtain ⟨h1, h2⟩ := h
  rcases h2 with ⟨rfl, h0⟩ | ⟨g, cap, cur, rfl, hb, hg, hc, hm, hs, ht⟩
  · exact absurd (List.length_eq_zero_iff.1 h0) hne
  · refine ⟨g, cap, rfl, hb, (Array.getElem?_eq_some_iff.1 hg).1, hc, hm, fun i hi => ⟨g, 0, rfl, ?_⟩⟩
    have e : (cur.toList.take (xs.length * 1))[i]? = some (.int .u32 (xs.getD i 0)) := by rw [ht]; exact U_get xs i hi
    rw [List.getElem?_take, if_pos (by omega)] at e
    simp only [World.cell?, hg]
    simpa using e

theorem limbs_three (w : World) : Limbs (w.alloc (.cells #[.int .u32 77, .int .u32 78, .int .u32 79] 63)) (some ⟨w.heap.size, 0, none⟩) [77, 78, 79] :=
  Blk.limbs (show Blk _ _ [77, 78, 79] from heap_alloc_last _ _)

/-- What copied makes: a row of its own: the limbs, then 77, 78, 79. -/
structure Copy (w w' : World) (g n cr : Nat) (xs : List Nat) : Prop where
  below : Below w.heap.size w w'
  fresh : w.heap.size ≤ g
  cap : n + 3 ≤ cr
  max : cr ≤ maxLen
  lie : Limbs w' (some ⟨g, 0, none⟩) (xs ++ [77, 78, 79])

theorem copy_end {w w1 w2 : World} {v' : Value} {xs : List Nat} {n : Nat} (hn : xs.length = n) (ho : Own w2 w.heap.size v' (xs ++ [77, 78, 79])) (hb : Below w.heap.size w w2) :
    ∃ g cr, v' = .slice (some ⟨g, 0, none⟩) (n + 3) cr ∧ Copy w w2 g n cr xs := by
  obtain ⟨g, cap, rfl, h1, h2, h3, h4, h5⟩ := ho.row (by simp)
  refine ⟨g, cap, by simp [hn], hb, h1, by simpa [hn] using h3, h4, h5⟩

theorem copy_end' {w w2 : World} {v' : Value} {xs : List Nat} {n : Nat} (hn : xs.length = n) (ho : Own w2 w.heap.size v' (xs ++ [77, 78, 79])) (hb : Below w.heap.size w w2) :
    ∃ g cr, v' = .slice (some ⟨g, 0, none⟩) (n + 3) cr ∧ Hid (Copy w w2 g n cr xs) ∧ n + 3 ≤ cr ∧ cr ≤ 2 ^ 63 - 1 := by
  obtain ⟨g, cr, h1, h2⟩ := copy_end (w := w) (w1 := w) hn ho hb
  exact ⟨g, cr, h1, h2, h2.cap, h2.max⟩

theorem Copy.sl {w w' : World} {g n cr : Nat} {xs : List Nat} (h : Copy w w' g n cr xs) (ho : Ok xs) (hn : xs.length = n) : Sl w' (some ⟨g, 0, none⟩) n cr xs :=
  ⟨hn, by have := h.cap; omega, h.max, (fun e => by cases e), ho, by
    have := h.lie.take xs.length
    rwa [List.take_left] at this⟩
theorem Copy.later {w w' w'' : World} {g n cr : Nat} {xs : List Nat} (h : Copy w w' g n cr xs) (hb : Below w'.heap.size w' w'') : Copy w w'' g n cr xs :=
  ⟨h.below.trans (hb.mono h.below.size), h.fresh, h.cap, h.max, h.lie.below hb⟩

end Go.Proofs.YtdhjgekbocnnkaaDoor
