/-
  Slices of limbs: arguments, new rows, make and copy.
-/
import Derived.Test.YtnjepeijihmemaaDoorCmp
import Derived.Deep.WholeRow
namespace Go.Proofs.YtnjepeijihmemaaDoor
open Go.RowKit Nt
set_option linter.unusedSimpArgs false
set_option linter.unusedVariables false

theorem infoU32 : (Tryd.prog.info? 39).map (fun i => (i.zero, i.size, i.bytes)) = some (some (.int .u32 0), 1, 4) := by kernel_rfl

/-- The block g holds just these limbs. -/
def Blk (w : World) (g : Nat) (xs : List Nat) : Prop := w.heap[g]? = some (.cells (U xs).toArray 39 (0, 0))

theorem Blk.limbs {w : World} {g : Nat} {xs : List Nat} (h : Blk w g xs) : Limbs w (some ⟨g, 0, none⟩) xs :=
  Limbs.of_block (pre := []) (xs := xs) (post := []) (by simpa [Blk] using h)
theorem Blk.below {w w' : World} {g : Nat} {xs : List Nat} (h : Blk w g xs) (hb : Below w.heap.size w w') : Blk w' g xs := by
  have hg : g < w.heap.size := (Array.getElem?_eq_some_iff.1 h).1
  exact (hb.block g hg).trans h
theorem Blk.size {w : World} {g : Nat} {xs : List Nat} (h : Blk w g xs) : g < w.heap.size := (Array.getElem?_eq_some_iff.1 h).1

theorem madeCells_u32 (n : Nat) : madeCells (Value.cells (.int .u32 0)) (n * 1) = (U (List.replicate n 0)).toArray := by
  apply Array.ext
  · simp [size_madeCells, U]
  · intro i h1 h2
    simp [madeCells, U, Value.cells, Nat.mod_one]

theorem make_u32 (n : Nat) (hn : n ≤ 70368744177664) (W : World) :
    (Instr.makeSlice 22 (.int .i64 n) (.int .i64 n)).run Tryd.prog W = .ok (.slice (some ⟨W.heap.size, 0, none⟩) n n) (W.alloc (.cells (U (List.replicate n 0)).toArray 39)) := by
  obtain ⟨i0, hi, hz0, hz1, hz2⟩ := info_parts infoU32
  have := run_make (P := Tryd.prog) W 22 39 i0 (.int .u32 0) Tryd.underlying22 hi hz0 .i64 .i64 n n (by omega) (by omega) (by rw [hz2]; omega) (by omega)
  rw [this, hz1]
  simp only [Int.toNat_natCast, madeCells_u32]

theorem oneCell_U (xs : List Nat) : ∀ v ∈ U xs, v.oneCell' = true := by
  intro v hv
  simp [U] at hv
  obtain ⟨a, _, rfl⟩ := hv
  rfl

/-- 'copy' of limbs into a row of the call's own that is at least as long. -/
theorem copy_u32 (W : World) (ty : TypeId) (g n nd c : Nat) (p : Option Addr) (xs zs : List Nat) (hl : xs.length = n) (hz : zs.length = nd) (hn : n ≤ nd) (hx : Limbs W p xs) (hg : Blk W g zs) (hc : p = none → c = 0) :
    (Builtin.copy_ #[22, 22] ty #[.slice (some ⟨g, 0, none⟩) nd nd, .slice p n c]).run Tryd.prog W = .ok (goInt n) (W.setRow g (U (xs ++ zs.drop n)).toArray) := by
  obtain ⟨i0, hi, hz0, hz1, hz2⟩ := info_parts infoU32
  have hs : (Tryd.prog.info? 39).map (·.size) = some 1 := by rw [hi]; simp [hz1]
  cases p with
  | none =>
    have h0 : n = 0 := by
      apply Classical.byContradiction
      intro h
      obtain ⟨b, o, e, _⟩ := hx 0 (by omega)
      cases e
    subst h0
    have hxs : xs = [] := List.length_eq_zero_iff.1 hl
    rw [hc rfl, run_copy_nil Tryd.prog W 22 22 ty 39 _ _ _ Tryd.underlying22 (by rw [hs]; rfl)]
    rw [hxs]
    simp only [List.nil_append, List.drop_zero]
    rw [setRow_self W g _ _ _ hg]
    rfl
  | some a =>
    have hsrc : ∀ j v, (U xs)[j]? = some v → W.cell? (a.add j) = some v := by
      intro j v hv
      have hj : j < xs.length := by
        have := (List.getElem?_eq_some_iff.1 hv).1
        simpa [U] using this
      rw [U_get xs j hj] at hv
      obtain ⟨b, o, e, hcc⟩ := hx j hj
      obtain rfl := Option.some.inj e
      rw [← hv, ← hcc]
      rw [addr_add]
    have h := run_copy_row Tryd.prog W 22 22 ty 39 g 0 nd nd a n c (U zs).toArray 39 (U xs) Tryd.underlying22 hs hg (by simp only [U_length, hl]; exact (Nat.min_eq_left hn).symm) hsrc (by simp [U, hl, hz]; omega) (oneCell_U xs)
    rw [h]
    have e1 : (U xs).length = n := by simp [U, hl]
    have e3 : (U zs).drop n = U (zs.drop n) := by simp [U, List.map_drop]
    simp [e1, e3, U_append]

/-- A slice of limbs that is handed in. -/
structure Sl (w : World) (p : Option Addr) (n c : Nat) (xs : List Nat) : Prop where
  len : xs.length = n
  cap : n ≤ c
  max : c ≤ maxLen
  nil : p = none → c = 0
  ok : Ok xs
  lie : Limbs w p xs

theorem Sl.none (w : World) : Sl w none 0 0 [] := ⟨rfl, Nat.le_refl _, Nat.zero_le _, fun _ => rfl, Ok.nil, Limbs.nil _ _⟩
theorem Sl.below {w w' : World} {p : Option Addr} {n c : Nat} {xs : List Nat} (h : Sl w p n c xs) (hb : Below w.heap.size w w') : Sl w' p n c xs := ⟨h.len, h.cap, h.max, h.nil, h.ok, h.lie.below hb⟩
theorem Sl.digs {w : World} {p : Option Addr} {n c : Nat} {xs : List Nat} (h : Sl w p n c xs) : Sl w p (digs (val xs)).length c (digs (val xs)) :=
  ⟨rfl, Nat.le_trans (by rw [← h.len]; exact digs_le_length h.ok) h.cap, h.max, h.nil, ok_digs _, h.lie.digs h.ok⟩
theorem Sl.dl {w : World} {p : Option Addr} {n c : Nat} {xs : List Nat} (h : Sl w p n c xs) : (Nt.digs (val xs)).length ≤ n := by rw [← h.len]; exact digs_le_length h.ok

/-- The slice does not lie in block g (or is empty). -/
def Apart (q : Option Addr) (ys : List Nat) (g : Nat) : Prop := ∀ b o, q = some ⟨b, o, none⟩ → ys ≠ [] → b ≠ g
theorem Sl.apart {w : World} {p : Option Addr} {n c g : Nat} {xs : List Nat} (h : Sl w p n c xs) (hg : w.heap.size ≤ g) : Apart p xs g := by
  intro b o e hne hb
  have hp : 0 < xs.length := by cases xs with | nil => exact absurd rfl hne | cons _ _ => simp
  obtain ⟨b', o', e', hc⟩ := h.lie 0 hp
  have := cell_some_block hc
  rw [e] at e'
  simp at e'
  simp at this
  omega

theorem trim_s (w : World) (p : Option Addr) (n c k : Nat) (xs : List Nat) (hk : (digs (val xs)).length = k) (h : Sl w p n c xs) :
    Calls Tryd.prog 18 #[.slice p n c] w fun e w' => e = .returned (.slice p k c) ∧ w' = w :=
  trim_k w p n c k xs hk h.len h.cap h.max h.ok h.lie

/-- A number that a call hands back: its digits lie in a row that the call has made; nothing that was there has turned. -/
structure Res (w w' : World) (p : Option Addr) (c n : Nat) : Prop where
  below : Below w.heap.size w w'
  sl : Sl w' p (Nt.digs n).length c (Nt.digs n)
  own : ∀ b o, p = some ⟨b, o, none⟩ → o = 0 ∧ w.heap.size ≤ b ∧ ∃ rest, Blk w' b (Nt.digs n ++ rest) ∧ Ok rest ∧ c = (Nt.digs n).length + rest.length

theorem Res.nil {w w' : World} (h : Below w.heap.size w w') : Res w w' none 0 0 := ⟨h, Sl.none _, fun _ _ e => by cases e⟩
/-- The row whose first limbs are the digits. -/
theorem Res.row {w w' : World} {g c n : Nat} {xs : List Nat} (h : Below w.heap.size w w') (hg : Blk w' g xs) (ho : Ok xs) (hv : val xs = n) (hB : w.heap.size ≤ g) (hc : xs.length = c) (hm : c ≤ maxLen) : Res w w' (some ⟨g, 0, none⟩) c n := by
  subst hv
  have hd : xs.take (Nt.digs (val xs)).length = Nt.digs (val xs) := take_digs_val ho
  refine ⟨h, ⟨rfl, by rw [← hc]; exact digs_le_length ho, hm, (fun e => by cases e), ok_digs _, hg.limbs.digs ho⟩, fun b o e => ?_⟩
  simp only [Option.some.injEq, Addr.mk.injEq] at e
  obtain ⟨rfl, rfl, _⟩ := e
  refine ⟨rfl, hB, xs.drop (Nt.digs (val xs)).length, ?_, ho.drop _, ?_⟩
  · have : Nt.digs (val xs) ++ xs.drop (Nt.digs (val xs)).length = xs := by
      conv => lhs; lhs; rw [← hd]
      exact List.take_append_drop _ _
    rw [this]; exact hg
  · have := digs_le_length ho
    simp; omega

/-- A result of a later world is one of the earlier. -/
theorem Res.since {w W w' : World} {p : Option Addr} {c n : Nat} (hb : Below w.heap.size w W) (r : Res W w' p c n) : Res w w' p c n :=
  ⟨hb.trans (r.below.mono hb.size), r.sl, fun b o e => by
    obtain ⟨h1, h2, h3⟩ := r.own b o e
    exact ⟨h1, Nat.le_trans hb.size h2, h3⟩⟩
/-- Behind the call other rows of this call's own may be made and written. -/
theorem Res.later {w w' w'' : World} {p : Option Addr} {c n : Nat} (r : Res w w' p c n) (hb : Below w'.heap.size w' w'') : Res w w'' p c n :=
  ⟨r.below.trans (hb.mono r.below.size), r.sl.below hb, fun b o e => by
    obtain ⟨h1, h2, rest, h3, h4, h5⟩ := r.own b o e
    exact ⟨h1, h2, rest, h3.below hb, h4, h5⟩⟩

/-- Norm: a new row that holds just the digits. -/
theorem norm_c (w : World) (p : Option Addr) (n c : Nat) (xs : List Nat) (h : Sl w p n c xs) (hs : n ≤ 70368744177664) :
    Calls Tryd.prog 11 #[.slice p n c] w fun e w' => e = .returned (.slice (some ⟨w.heap.size, 0, none⟩) (digs (val xs)).length (digs (val xs)).length) ∧ w' = w.alloc (.cells (U (digs (val xs))).toArray 39) := by
  obtain ⟨k, hk⟩ : ∃ k, (digs (val xs)).length = k := ⟨_, rfl⟩
  have T := hid (trim_s w p n c k xs hk h)
  have hkn : k ≤ n := by rw [← hk]; exact h.dl
  have M := make_u32 k (by omega)
  have hcp : ∀ ty, (Builtin.copy_ #[22, 22] ty #[.slice (some ⟨w.heap.size, 0, none⟩) k k, .slice p k c]).run Tryd.prog (w.alloc (.cells (U (List.replicate k 0)).toArray 39)) = .ok (goInt k) (w.alloc (.cells (U (digs (val xs))).toArray 39)) := by
    intro ty
    rw [copy_u32 _ ty _ k k c p (digs (val xs)) (List.replicate k 0) hk (by simp) (Nat.le_refl _) (h.digs.lie.below ((Below.refl _ _).alloc (Nat.le_refl _) _)) (heap_alloc_last _ _) h.nil]
    rw [World.setRow_alloc_new]
    simp [List.drop_eq_nil_of_le]
  rw [hk]
  have hm := h.max
  unfold maxLen at hm
  have hc := h.cap
  clear hk h
  go_enter Tryd.func11, Tryd.ntmps11
  go_wp2_with fail
  refine T.out.mono ?_
  rintro e w' ⟨rfl, rfl⟩
  go_wp2
  go_ret
  exact ⟨rfl, rfl⟩
end Go.Proofs.YtnjepeijihmemaaDoor
