/-
  Slices of limbs: arguments, new rows, make and copy.
-/
import Derived.Test.YtgalppimdmjdcabCmp
import Derived.Deep.WholeRow
namespace Go.Proofs.Ytgalppimdmjdcab
open Go.RowKit Nt
set_option linter.unusedSimpArgs false
set_option linter.unusedVariables false

theorem infoU32 : (Try.prog.info? 35).map (fun i => (i.zero, i.size, i.bytes)) = some (some (.int .u32 0), 1, 4) := by kernel_rfl

/-- The block g holds just these limbs. -/
def Blk (w : World) (g : Nat) (xs : List Nat) : Prop := w.heap[g]? = some (.cells (U xs).toArray 35 (0, 0))

theorem Blk.limbs {w : World} {g : Nat} {xs : List Nat} (h : Blk w g xs) : Limbs w (some ⟨g, 0, none⟩) xs :=
  Limbs.of_block (pre := []) (xs := xs) (post := []) (by simpa [Blk] using h)
theorem Blk.below {w w' : World} {g : Nat} {xs : List Nat} (h : Blk w g xs) (hb : Below w.heap.size w w') : Blk w' g xs := by
  have hg : g < w.heap.size := (Array.getElem?_eq_some_iff.1 h).1
  exact (hb.block g hg).trans h
theorem Blk.size {w : World} {g : Nat} {xs : List Nat} (h : Blk w g xs) : g < w.heap.size := (Array.getElem?_eq_some_iff.1 h).1

theorem madeCells_u32 (n : Nat) : madeCells (Value.cells (.int .u32 0)) (n * 1) = (U (List.replicate n 0)).toArray := by
  apply Array.ext
  · simp [size_madeCells, U]
  · intro i h1 h2
    simp [madeCells, U, Value.cells, Nat.mod_one]

theorem oneCell_U (xs : List Nat) : ∀ v ∈ U xs, v.oneCell' = true := by
  intro v hv
  simp [U] at hv
  obtain ⟨a, _, rfl⟩ := hv
  rfl

/-- A slice of limbs that is handed in. -/
structure Sl (w : World) (p : Option Addr) (n c : Nat) (xs : List Nat) : Prop where
  len : xs.length = n
  cap : n ≤ c
  max : c ≤ maxLen
  nil : p = none → c = 0
  ok : Ok xs
  lie : Limbs w p xs

theorem Sl.none (w : World) : Sl w none 0 0 [] := ⟨rfl, Nat.le_refl _, Nat.zero_le _, fun _ => rfl, Ok.nil, Limbs.nil _ _⟩
theorem Sl.below {w w' : World} {p : Option Addr} {n c : Nat} {xs : List Nat} (h : Sl w p n c xs) (hb : Below w.heap.size w w') : Sl w' p n c xs := ⟨h.len, h.cap, h.max, h.nil, h.ok, h.lie.below hb⟩
theorem Sl.digs {w : World} {p : Option Addr} {n c : Nat} {xs : List Nat} (h : Sl w p n c xs) : Sl w p (digs (val xs)).length c (digs (val xs)) :=
  ⟨rfl, Nat.le_trans (by rw [← h.len]; exact digs_le_length h.ok) h.cap, h.max, h.nil, ok_digs _, h.lie.digs h.ok⟩
theorem Sl.dl {w : World} {p : Option Addr} {n c : Nat} {xs : List Nat} (h : Sl w p n c xs) : (Nt.digs (val xs)).length ≤ n := by rw [← h.len]; exact digs_le_length h.ok

/-- The slice does not lie in block g (or is empty). -/
def Apart (q : Option Addr) (ys : List Nat) (g : Nat) : Prop := ∀ b o, q = some ⟨b, o, none⟩ → ys ≠ [] → b ≠ g
theorem Sl.apart {w : World} {p : Option Addr} {n c g : Nat} {xs : List Nat} (h : Sl w p n c xs) (hg : w.heap.size ≤ g) : Apart p xs g := by
  intro b o e hne hb
  have hp : 0 < xs.length := by cases xs with | nil => exact absurd rfl hne | cons _ _ => simp
  obtain ⟨b', o', e', hc⟩ := h.lie 0 hp
  have := cell_some_block hc
  rw [e] at e'
  simp at e'
  simp at this
  omega

/-- A number that a call hands back: its digits lie in a row that the call has made; nothing that was there has turned. -/
structure Res (w w' : World) (p : Option Addr) (c n : Nat) : Prop where
  below : Below w.heap.size w w'
  sl : Sl w' p (Nt.digs n).length c (Nt.digs n)
  own : ∀ b o, p = some ⟨b, o, none⟩ → o = 0 ∧ w.heap.size ≤ b ∧ ∃ rest, Blk w' b (Nt.digs n ++ rest) ∧ Ok rest ∧ c = (Nt.digs n).length + rest.length

theorem Res.nil {w w' : World} (h : Below w.heap.size w w') : Res w w' none 0 0 := ⟨h, Sl.none _, fun _ _ e => by cases e⟩
/-- The row whose first limbs are the digits. -/
theorem Res.row {w w' : World} {g c n : Nat} {xs : List Nat} (h : Below w.heap.size w w') (hg : Blk w' g xs) (ho : Ok xs) (hv : val xs = n) (hB : w.heap.size ≤ g) (hc : xs.length = c) (hm : c ≤ maxLen) : Res w w' (some ⟨g, 0, none⟩) c n := by
  subst hv
  have hd : xs.take (Nt.digs (val xs)).length = Nt.digs (val xs) := take_digs_val ho
  refine ⟨h, ⟨rfl, by rw [← hc]; exact digs_le_length ho, hm, (fun e => by cases e), ok_digs _, hg.limbs.digs ho⟩, fun b o e => ?_⟩
  simp only [Option.some.injEq, Addr.mk.injEq] at e
  obtain ⟨rfl, rfl, _⟩ := e
  refine ⟨rfl, hB, xs.drop (Nt.digs (val xs)).length, ?_, ho.drop _, ?_⟩
  · have : Nt.digs (val xs) ++ xs.drop (Nt.digs (val xs)).length = xs := by
      conv => lhs; lhs; rw [← hd]
      exact List.take_append_drop _ _
    rw [this]; exact hg
  · have := digs_le_length ho
    simp; omega

/-- A result of a later world is one of the earlier. -/
theorem Res.since {w W w' : World} {p : Option Addr} {c n : Nat} (hb : Below w.heap.size w W) (r : Res W w' p c n) : Res w w' p c n :=
  ⟨hb.trans (r.below.mono hb.size), r.sl, fun b o e => by
    obtain ⟨h1, h2, h3⟩ := r.own b o e
    exact ⟨h1, Nat.le_trans hb.size h2, h3⟩⟩
/-- Behind the call other rows of this call's own may be made and written. -/
theorem Res.later {w w' w'' : World} {p : Option Addr} {c n : Nat} (r : Res w w' p c n) (hb : Below w'.heap.size w' w'') : Res w w'' p c n :=
  ⟨r.below.trans (hb.mono r.below.size), r.sl.below hb, fun b o e => by
    obtain ⟨h1, h2, rest, h3, h4, h5⟩ := r.own b o e
    exact ⟨h1, h2, rest, h3.below hb, h4, h5⟩⟩

end Go.Proofs.Ytgalppimdmjdcab
