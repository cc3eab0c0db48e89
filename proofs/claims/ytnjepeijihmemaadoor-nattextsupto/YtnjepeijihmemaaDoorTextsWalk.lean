/-
  NatTexts' walk: it returns true and writes nothing that was there.
-/
import Derived.Test.YtnjepeijihmemaaDoorRead
import Derived.Test.YtnjepeijihmemaaDoorRefRead
import Derived.Test.YtnjepeijihmemaaDoorRefText
import Derived.Test.YtnjepeijihmemaaDoorAwake
namespace Go.Proofs.YtnjepeijihmemaaDoor
open Go.RowKit Nt
set_option linter.unusedSimpArgs false
set_option linter.unusedVariables false

theorem text_s (w : World) (p : Option Addr) (n c : Nat) (xs : List Nat) (s : ByteArray) (hs : (⟨(Lib.decDigits (val xs)).toArray⟩ : ByteArray) = s) (h : Sl w p n c xs) (hn : n ≤ 1048577) (ht : Tab w) :
    Calls Tryd.prog 7 #[.slice p n c] w fun e w' => e = .returned (.string s) ∧ Below w.heap.size w w' := by
  rw [← hs]
  exact text_c w p n c xs h hn ht
theorem rtext_s (w : World) (p : Option Addr) (n c : Nat) (xs : List Nat) (s : ByteArray) (hs : (⟨(Lib.decDigits (val xs)).toArray⟩ : ByteArray) = s) (h : Sl w p n c xs) (hn : n ≤ 1048577) :
    Calls Tryd.prog 8 #[.slice p n c] w fun e w' => e = .returned (.string s) ∧ Below w.heap.size w w' := by
  rw [← hs]
  exact rtext_c w p n c xs h hn
theorem read_bad (w : World) (s : ByteArray) (i : Nat) (h0 : i < s.size) (hs : s.size ≤ 65536) (hb : bad s.data.toList i) (hm : ∀ j, j < i → ¬ bad s.data.toList j) :
    Calls Tryd.prog 5 #[.string s] w fun e w' => e = .returned (.tuple #[.slice none 0 0, .int .i64 i, .int .i64 4]) ∧ Below w.heap.size w w' := by
  refine (read_c w s (by omega) hs).mono ?_
  rintro e w' (⟨j, h1, h2, h3, h4, h5⟩ | ⟨h1, _⟩)
  · obtain rfl : j = i := by
      rcases Nat.lt_trichotomy j i with h | h | h
      · exact absurd h2 (hm j h)
      · exact h
      · exact absurd hb (h3 i h)
    exact ⟨h4, h5⟩
  · exact absurd hb (h1 i h0)
theorem rread_bad (w : World) (s : ByteArray) (i : Nat) (h0 : i < s.size) (hs : s.size ≤ 65536) (hb : bad s.data.toList i) (hm : ∀ j, j < i → ¬ bad s.data.toList j) :
    Calls Tryd.prog 6 #[.string s] w fun e w' => e = .returned (.tuple #[.slice none 0 0, .int .i64 i, .int .i64 4]) ∧ Below w.heap.size w w' := by
  refine (rread_c w s (by omega) hs).mono ?_
  rintro e w' (⟨j, h1, h2, h3, h4, h5⟩ | ⟨h1, _⟩)
  · obtain rfl : j = i := by
      rcases Nat.lt_trichotomy j i with h | h | h
      · exact absurd h2 (hm j h)
      · exact h
      · exact absurd hb (h3 i h)
    exact ⟨h4, h5⟩
  · exact absurd hb (h1 i h0)
theorem read_good (w : World) (s : ByteArray) (V : Nat) (hV : decV s.data.toList = V) (h0 : 0 < s.size) (hs : s.size ≤ 65536) (hm : ∀ j, j < s.size → ¬ bad s.data.toList j) :
    Calls Tryd.prog 5 #[.string s] w fun e w' => ∃ r cr, e = .returned (.tuple #[.slice r (digs V).length cr, .int .i64 0, .int .i64 0]) ∧ Sl w' r (digs V).length cr (digs V) ∧ Below w.heap.size w w' := by
  refine (read_c w s h0 hs).mono ?_
  rintro e w' (⟨j, h1, h2, _⟩ | ⟨_, r, cr, h1, h2⟩)
  · exact absurd h2 (hm j h1)
  · rw [hV] at h1 h2
    exact ⟨r, cr, h1, h2.sl, h2.below⟩
theorem rread_good (w : World) (s : ByteArray) (V : Nat) (hV : decV s.data.toList = V) (h0 : 0 < s.size) (hs : s.size ≤ 65536) (hm : ∀ j, j < s.size → ¬ bad s.data.toList j) :
    Calls Tryd.prog 6 #[.string s] w fun e w' => ∃ r cr, e = .returned (.tuple #[.slice r (digs V).length cr, .int .i64 0, .int .i64 0]) ∧ Sl w' r (digs V).length cr (digs V) ∧ Below w.heap.size w w' := by
  refine (rread_c w s h0 hs).mono ?_
  rintro e w' (⟨j, h1, h2, _⟩ | ⟨_, r, cr, h1, h2, h3⟩)
  · exact absurd h2 (hm j h1)
  · rw [hV] at h1 h2
    exact ⟨r, cr, h1, h2, h3⟩

set_option maxHeartbeats 8000000 in
theorem texts_long (w : World) (p0 : Option Addr) (n0 c0 : Nat) (xs0 : List Nat) (s : ByteArray) (h0 : Sl w p0 n0 c0 xs0) (b0 : n0 ≤ 1048576) (ht : Tab w) (hz : 65536 < s.size) (hs3 : s.size ≤ 9223372036854775807) :
    Calls Tryd.prog 3 #[.slice p0 n0 c0, .string s] w fun e w' => e = .returned (.bool true) ∧ Below w.heap.size w w' := by
  have HB := hid (Below.refl w.heap.size w)
  have L_a := hid h0
  have HT := hid ht
  obtain ⟨t, hst⟩ : ∃ t, (⟨(Lib.decDigits (val xs0)).toArray⟩ : ByteArray) = t := ⟨_, rfl⟩
  have HS := hid hst
  clear h0 ht hst
  go_enter Tryd.func3, Tryd.ntmps3
  go_wp2_with fail
  refine (read_long _ s hz hs3).mono ?_
  rintro e W1 ⟨rfl, rfl⟩
  go_wp2_with fail
  refine (rread_long _ s hz hs3).mono ?_
  rintro e W2 ⟨rfl, rfl⟩
  go_wp2_with fail
  refine (text_s _ p0 n0 c0 xs0 t HS.out L_a.out (by omega) HT.out).mono ?_
  rintro e W3 ⟨rfl, bel⟩
  have B3 : Below W2.heap.size W2 W3 := bel
  replace HB := hid (HB.out.trans (B3.mono HB.out.size))
  replace L_a := hid (L_a.out.below B3)
  replace HT := hid (HT.out.below B3)
  clear B3
  clear bel
  go_wp2_with fail
  refine (rtext_s _ p0 n0 c0 xs0 t HS.out L_a.out (by omega)).mono ?_
  rintro e W4 ⟨rfl, bel⟩
  have B4 : Below W3.heap.size W3 W4 := bel
  replace HB := hid (HB.out.trans (B4.mono HB.out.size))
  replace L_a := hid (L_a.out.below B4)
  replace HT := hid (HT.out.below B4)
  clear B4
  clear bel
  go_wp2_with fail
  refine (same_c _ none none 0 0 0 0 [] (Sl.none _) (Sl.none _)).mono ?_
  rintro e wq ⟨rfl, nq, rfl⟩
  generalize hW5 : World.drewN W4 nq = W5
  have B5 : Below W4.heap.size W4 W5 := by rw [← hW5]; exact below_drewN' (Below.refl _ _) nq
  replace HB := hid (HB.out.trans (B5.mono HB.out.size))
  replace L_a := hid (L_a.out.below B5)
  replace HT := hid (HT.out.below B5)
  clear B5 hW5
  go_wp2_with fail
  refine (awake_c _).mono ?_
  rintro e W6 ⟨rfl, bel⟩
  have B6 : Below W5.heap.size W5 W6 := bel
  replace HB := hid (HB.out.trans (B6.mono HB.out.size))
  replace L_a := hid (L_a.out.below B6)
  replace HT := hid (HT.out.below B6)
  clear B6
  clear bel
  go_wp2
  go_ret
  exact ⟨rfl, HB.out⟩

set_option maxHeartbeats 8000000 in
theorem texts_empty (w : World) (p0 : Option Addr) (n0 c0 : Nat) (xs0 : List Nat) (s : ByteArray) (h0 : Sl w p0 n0 c0 xs0) (b0 : n0 ≤ 1048576) (ht : Tab w)  :
    Calls Tryd.prog 3 #[.slice p0 n0 c0, .string ⟨#[]⟩] w fun e w' => e = .returned (.bool true) ∧ Below w.heap.size w w' := by
  have HB := hid (Below.refl w.heap.size w)
  have L_a := hid h0
  have HT := hid ht
  obtain ⟨t, hst⟩ : ∃ t, (⟨(Lib.decDigits (val xs0)).toArray⟩ : ByteArray) = t := ⟨_, rfl⟩
  have HS := hid hst
  clear h0 ht hst
  go_enter Tryd.func3, Tryd.ntmps3
  go_wp2_with fail
  refine (read_empty _).mono ?_
  rintro e W1 ⟨rfl, rfl⟩
  go_wp2_with fail
  refine (rread_empty _).mono ?_
  rintro e W2 ⟨rfl, rfl⟩
  go_wp2_with fail
  refine (text_s _ p0 n0 c0 xs0 t HS.out L_a.out (by omega) HT.out).mono ?_
  rintro e W3 ⟨rfl, bel⟩
  have B3 : Below W2.heap.size W2 W3 := bel
  replace HB := hid (HB.out.trans (B3.mono HB.out.size))
  replace L_a := hid (L_a.out.below B3)
  replace HT := hid (HT.out.below B3)
  clear B3
  clear bel
  go_wp2_with fail
  refine (rtext_s _ p0 n0 c0 xs0 t HS.out L_a.out (by omega)).mono ?_
  rintro e W4 ⟨rfl, bel⟩
  have B4 : Below W3.heap.size W3 W4 := bel
  replace HB := hid (HB.out.trans (B4.mono HB.out.size))
  replace L_a := hid (L_a.out.below B4)
  replace HT := hid (HT.out.below B4)
  clear B4
  clear bel
  go_wp2_with fail
  refine (same_c _ none none 0 0 0 0 [] (Sl.none _) (Sl.none _)).mono ?_
  rintro e wq ⟨rfl, nq, rfl⟩
  generalize hW5 : World.drewN W4 nq = W5
  have B5 : Below W4.heap.size W4 W5 := by rw [← hW5]; exact below_drewN' (Below.refl _ _) nq
  replace HB := hid (HB.out.trans (B5.mono HB.out.size))
  replace L_a := hid (L_a.out.below B5)
  replace HT := hid (HT.out.below B5)
  clear B5 hW5
  go_wp2_with fail
  refine (awake_c _).mono ?_
  rintro e W6 ⟨rfl, bel⟩
  have B6 : Below W5.heap.size W5 W6 := bel
  replace HB := hid (HB.out.trans (B6.mono HB.out.size))
  replace L_a := hid (L_a.out.below B6)
  replace HT := hid (HT.out.below B6)
  clear B6
  clear bel
  go_wp2
  go_ret
  exact ⟨rfl, HB.out⟩

set_option maxHeartbeats 8000000 in
theorem texts_bad (w : World) (p0 : Option Addr) (n0 c0 : Nat) (xs0 : List Nat) (s : ByteArray) (h0 : Sl w p0 n0 c0 xs0) (b0 : n0 ≤ 1048576) (ht : Tab w) (i : Nat) (hi : i < s.size) (hs : s.size ≤ 65536) (hb : bad s.data.toList i) (hm : ∀ j, j < i → ¬ bad s.data.toList j) :
    Calls Tryd.prog 3 #[.slice p0 n0 c0, .string s] w fun e w' => e = .returned (.bool true) ∧ Below w.heap.size w w' := by
  have HB := hid (Below.refl w.heap.size w)
  have L_a := hid h0
  have HT := hid ht
  obtain ⟨t, hst⟩ : ∃ t, (⟨(Lib.decDigits (val xs0)).toArray⟩ : ByteArray) = t := ⟨_, rfl⟩
  have HS := hid hst
  clear h0 ht hst
  have HBAD := hid (And.intro hb hm)
  clear hb hm
  go_enter Tryd.func3, Tryd.ntmps3
  go_wp2_with fail
  refine (read_bad _ s i hi hs HBAD.out.1 HBAD.out.2).mono ?_
  rintro e W1 ⟨rfl, bel⟩
  have B1 : Below w.heap.size w W1 := bel
  replace HB := hid (HB.out.trans (B1.mono HB.out.size))
  replace L_a := hid (L_a.out.below B1)
  replace HT := hid (HT.out.below B1)
  clear B1
  clear bel
  go_wp2_with fail
  refine (rread_bad _ s i hi hs HBAD.out.1 HBAD.out.2).mono ?_
  rintro e W2 ⟨rfl, bel⟩
  have B2 : Below W1.heap.size W1 W2 := bel
  replace HB := hid (HB.out.trans (B2.mono HB.out.size))
  replace L_a := hid (L_a.out.below B2)
  replace HT := hid (HT.out.below B2)
  clear B2
  clear bel
  go_wp2_with fail
  refine (text_s _ p0 n0 c0 xs0 t HS.out L_a.out (by omega) HT.out).mono ?_
  rintro e W3 ⟨rfl, bel⟩
  have B3 : Below W2.heap.size W2 W3 := bel
  replace HB := hid (HB.out.trans (B3.mono HB.out.size))
  replace L_a := hid (L_a.out.below B3)
  replace HT := hid (HT.out.below B3)
  clear B3
  clear bel
  go_wp2_with fail
  refine (rtext_s _ p0 n0 c0 xs0 t HS.out L_a.out (by omega)).mono ?_
  rintro e W4 ⟨rfl, bel⟩
  have B4 : Below W3.heap.size W3 W4 := bel
  replace HB := hid (HB.out.trans (B4.mono HB.out.size))
  replace L_a := hid (L_a.out.below B4)
  replace HT := hid (HT.out.below B4)
  clear B4
  clear bel
  go_wp2_with fail
  refine (same_c _ none none 0 0 0 0 [] (Sl.none _) (Sl.none _)).mono ?_
  rintro e wq ⟨rfl, nq, rfl⟩
  generalize hW5 : World.drewN W4 nq = W5
  have B5 : Below W4.heap.size W4 W5 := by rw [← hW5]; exact below_drewN' (Below.refl _ _) nq
  replace HB := hid (HB.out.trans (B5.mono HB.out.size))
  replace L_a := hid (L_a.out.below B5)
  replace HT := hid (HT.out.below B5)
  clear B5 hW5
  go_wp2_with fail
  refine (awake_c _).mono ?_
  rintro e W6 ⟨rfl, bel⟩
  have B6 : Below W5.heap.size W5 W6 := bel
  replace HB := hid (HB.out.trans (B6.mono HB.out.size))
  replace L_a := hid (L_a.out.below B6)
  replace HT := hid (HT.out.below B6)
  clear B6
  clear bel
  go_wp2
  go_ret
  exact ⟨rfl, HB.out⟩

set_option maxHeartbeats 8000000 in
theorem texts_good (w : World) (p0 : Option Addr) (n0 c0 : Nat) (xs0 : List Nat) (s : ByteArray) (h0 : Sl w p0 n0 c0 xs0) (b0 : n0 ≤ 1048576) (ht : Tab w) (hp : 0 < s.size) (hs : s.size ≤ 65536) (hm : ∀ j, j < s.size → ¬ bad s.data.toList j) :
    Calls Tryd.prog 3 #[.slice p0 n0 c0, .string s] w fun e w' => e = .returned (.bool true) ∧ Below w.heap.size w w' := by
  have HB := hid (Below.refl w.heap.size w)
  have L_a := hid h0
  have HT := hid ht
  obtain ⟨t, hst⟩ : ∃ t, (⟨(Lib.decDigits (val xs0)).toArray⟩ : ByteArray) = t := ⟨_, rfl⟩
  have HS := hid hst
  clear h0 ht hst
  obtain ⟨V, hV⟩ : ∃ V, decV s.data.toList = V := ⟨_, rfl⟩
  have HG := hid (And.intro hV hm)
  clear hV hm
  go_enter Tryd.func3, Tryd.ntmps3
  go_wp2_with fail
  refine (read_good _ s V HG.out.1 hp hs HG.out.2).mono ?_
  rintro e W1 ⟨r_x, c_x, rfl, T1, U1⟩
  have B1 := U1
  replace HB := hid (HB.out.trans (B1.mono HB.out.size))
  replace L_a := hid (L_a.out.below B1)
  replace HT := hid (HT.out.below B1)
  obtain ⟨l_x, hl1⟩ : ∃ l, (digs (V)).length = l := ⟨_, rfl⟩
  rw [hl1] at T1 ⊢
  have S_x := hid (T1)
  clear T1 U1 B1 hl1
  go_wp2_with fail
  refine (rread_good _ s V HG.out.1 hp hs HG.out.2).mono ?_
  rintro e W2 ⟨r_y, c_y, rfl, T2, U2⟩
  have B2 := U2
  replace HB := hid (HB.out.trans (B2.mono HB.out.size))
  replace L_a := hid (L_a.out.below B2)
  replace HT := hid (HT.out.below B2)
  replace S_x := hid (S_x.out.below B2)
  obtain ⟨l_y, hl2⟩ : ∃ l, (digs (V)).length = l := ⟨_, rfl⟩
  rw [hl2] at T2 ⊢
  have S_y := hid (T2)
  clear T2 U2 B2 hl2
  go_wp2_with fail
  refine (text_s _ p0 n0 c0 xs0 t HS.out L_a.out (by omega) HT.out).mono ?_
  rintro e W3 ⟨rfl, bel⟩
  have B3 : Below W2.heap.size W2 W3 := bel
  replace HB := hid (HB.out.trans (B3.mono HB.out.size))
  replace L_a := hid (L_a.out.below B3)
  replace HT := hid (HT.out.below B3)
  replace S_x := hid (S_x.out.below B3)
  replace S_y := hid (S_y.out.below B3)
  clear B3
  clear bel
  go_wp2_with fail
  refine (rtext_s _ p0 n0 c0 xs0 t HS.out L_a.out (by omega)).mono ?_
  rintro e W4 ⟨rfl, bel⟩
  have B4 : Below W3.heap.size W3 W4 := bel
  replace HB := hid (HB.out.trans (B4.mono HB.out.size))
  replace L_a := hid (L_a.out.below B4)
  replace HT := hid (HT.out.below B4)
  replace S_x := hid (S_x.out.below B4)
  replace S_y := hid (S_y.out.below B4)
  clear B4
  clear bel
  go_wp2_with fail
  refine (same_c _ r_x r_y _ _ _ _ _ S_x.out S_y.out).mono ?_
  rintro e wq ⟨rfl, nq, rfl⟩
  generalize hW5 : World.drewN W4 nq = W5
  have B5 : Below W4.heap.size W4 W5 := by rw [← hW5]; exact below_drewN' (Below.refl _ _) nq
  replace HB := hid (HB.out.trans (B5.mono HB.out.size))
  replace L_a := hid (L_a.out.below B5)
  replace HT := hid (HT.out.below B5)
  replace S_x := hid (S_x.out.below B5)
  replace S_y := hid (S_y.out.below B5)
  clear B5 hW5
  go_wp2_with fail
  refine (awake_c _).mono ?_
  rintro e W6 ⟨rfl, bel⟩
  have B6 : Below W5.heap.size W5 W6 := bel
  replace HB := hid (HB.out.trans (B6.mono HB.out.size))
  replace L_a := hid (L_a.out.below B6)
  replace HT := hid (HT.out.below B6)
  replace S_x := hid (S_x.out.below B6)
  replace S_y := hid (S_y.out.below B6)
  clear B6
  clear bel
  go_wp2
  go_ret
  exact ⟨rfl, HB.out⟩

theorem first_bad (l : List UInt8) : ∀ n, (∀ j, j < n → ¬ bad l j) ∨ ∃ i, i < n ∧ bad l i ∧ ∀ j, j < i → ¬ bad l j
  | 0 => Or.inl (fun j hj => by omega)
  | n + 1 => by
    rcases first_bad l n with h | ⟨i, h1, h2, h3⟩
    · by_cases hb : bad l n
      · exact Or.inr ⟨n, by omega, hb, h⟩
      · refine Or.inl (fun j hj => ?_)
        rcases Nat.lt_or_ge j n with h' | h'
        · exact h j h'
        · obtain rfl : j = n := by omega
          exact hb
    · exact Or.inr ⟨i, by omega, h2, h3⟩
theorem texts_walk (w : World) (p0 : Option Addr) (n0 c0 : Nat) (xs0 : List Nat) (s : ByteArray) (h0 : Sl w p0 n0 c0 xs0) (b0 : c0 ≤ 1048576) (b1 : s.size ≤ 1048576) (ht : Tab w) :
    Calls Tryd.prog 3 #[.slice p0 n0 c0, .string s] w fun e w' => e = .returned (.bool true) ∧ Below w.heap.size w w' := by
  have hn : n0 ≤ 1048576 := Nat.le_trans h0.cap b0
  rcases Nat.lt_or_ge 65536 s.size with hz | hz
  · exact texts_long w p0 n0 c0 xs0 s h0 hn ht hz (by omega)
  · rcases Nat.eq_zero_or_pos s.size with h | h
    · obtain rfl : s = ⟨#[]⟩ := ByteArray.ext (Array.eq_empty_of_size_eq_zero h)
      exact texts_empty w p0 n0 c0 xs0 ⟨#[]⟩ h0 hn ht
    · rcases first_bad s.data.toList s.size with hg | ⟨i, h1, h2, h3⟩
      · exact texts_good w p0 n0 c0 xs0 s h0 hn ht h hz hg
      · exact texts_bad w p0 n0 c0 xs0 s h0 hn ht i h1 hz h2 h3
end Go.Proofs.YtnjepeijihmemaaDoor
