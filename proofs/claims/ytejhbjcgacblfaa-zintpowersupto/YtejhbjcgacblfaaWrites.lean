/-
  A row of the call's own that is written limb by limb.
-/
import Derived.Test.YtejhbjcgacblfaaSetA
namespace Go.Proofs.Ytejhbjcgacblfaa
open Go.RowKit Nt
set_option linter.unusedSimpArgs false
set_option linter.unusedVariables false

/-- The world w, in which the row of block g holds the limbs xs (and some draws have been made). -/
def Wr (w : World) (g : Nat) (xs : List Nat) (w' : World) : Prop := ∃ n, w' = (w.setRow g (U xs).toArray).drewN n

theorem Wr.refl {w : World} {g : Nat} {xs : List Nat} (h : Blk w g xs) : Wr w g xs w := ⟨0, by rw [setRow_self w g _ _ _ h]; rfl⟩
theorem Wr.blk {w w' : World} {g : Nat} {xs ys : List Nat} (h : Blk w g xs) (k : Wr w g ys w') : Blk w' g ys := by
  obtain ⟨n, rfl⟩ := k
  exact setRow_heap w g _ _ _ _ h
theorem Wr.drewN {w w' : World} {g : Nat} {xs : List Nat} (h : Wr w g xs w') (n : Nat) : Wr w g xs (w'.drewN n) := by
  obtain ⟨m, rfl⟩ := h
  exact ⟨m + n, by rw [World.drewN_drewN]⟩
theorem Wr.drew {w w' : World} {g : Nat} {xs : List Nat} (h : Wr w g xs w') : Wr w g xs w'.drew := h.drewN 1
theorem Wr.other {w w' : World} {g k : Nat} {xs : List Nat} (h : Wr w g xs w') (hk : k ≠ g) : w'.heap[k]? = w.heap[k]? := by
  obtain ⟨n, rfl⟩ := h
  exact setRow_other w g k _ hk
theorem Wr.size {w w' : World} {g : Nat} {xs : List Nat} (h : Wr w g xs w') : w'.heap.size = w.heap.size := by
  obtain ⟨n, rfl⟩ := h
  exact setRow_size w g _
theorem Wr.below {w0 w w' : World} {B g : Nat} {xs : List Nat} (h : Wr w g xs w') (hb : Below B w0 w) (hg : B ≤ g) : Below B w0 w' := by
  obtain ⟨n, rfl⟩ := h
  exact below_drewN' (below_setRow hb hg _) n
theorem Wr.trans {w w' w'' : World} {g : Nat} {xs ys : List Nat} (h : Wr w g xs w') (k : Wr w' g ys w'') : Wr w g ys w'' := by
  obtain ⟨n, rfl⟩ := h
  obtain ⟨m, rfl⟩ := k
  refine ⟨n + m, ?_⟩
  rw [← setRow_setRow w g (U xs).toArray (U ys).toArray, ← World.drewN_drewN]
  rfl
/-- What lies in another block is as it was. -/
theorem Wr.limbs {w w' : World} {g : Nat} {xs ys : List Nat} {q : Option Addr} (h : Wr w g xs w') (hl : Limbs w q ys) (hq : Apart q ys g) : Limbs w' q ys := fun i hi => by
  obtain ⟨b, o, e, hc⟩ := hl i hi
  refine ⟨b, o, e, ?_⟩
  rw [← hc]
  exact World.cell?_of_block (w := w) (h.other (hq b o e (by intro e; rw [e] at hi; simp at hi)))

theorem Blk.cell {w : World} {g : Nat} {xs : List Nat} (h : Blk w g xs) (i : Nat) (hi : i < xs.length) : w.cell? ⟨g, i, none⟩ = some (.int .u32 (xs.getD i 0)) := by
  obtain ⟨b, o, e, hc⟩ := h.limbs i hi
  simp only [Option.some.injEq, Addr.mk.injEq] at e
  obtain ⟨rfl, rfl, _⟩ := e
  simpa using hc
theorem Blk.frozen {w : World} {g : Nat} {xs : List Nat} (h : Blk w g xs) (i : Nat) : w.frozen? ⟨g, i, none⟩ = false := by
  unfold Blk at h
  simp [World.frozen?, h]

/-- One limb is written. -/
theorem Wr.set {w w' : World} {g : Nat} {xs ys : List Nat} (h : Blk w g xs) (k : Wr w g ys w') (i z : Nat) : Wr w g (ys.set i z) (w'.setCell ⟨g, i, none⟩ (.int .u32 z)) := by
  have hb := Wr.blk h k
  have e := setCell_eq_setRow w' g i (U ys).toArray _ _ (.int .u32 z) hb
  obtain ⟨n, rfl⟩ := k
  refine ⟨n, ?_⟩
  rw [e]
  have e2 : (U ys).toArray.setIfInBounds i (.int .u32 (z : Int)) = (U (ys.set i z)).toArray := by
    simp [U, List.map_set]
  rw [e2]
  show ((w.setRow g _).setRow g _).drewN n = _
  rw [setRow_setRow]

theorem set_mid (pre zs rs post : List Nat) (k x z : Nat) (hz : zs.length = k) : (pre ++ (zs ++ x :: rs) ++ post).set (pre.length + k) z = pre ++ ((zs ++ [z]) ++ rs) ++ post := by
  subst hz
  rw [List.append_assoc, List.set_append_right _ _ (by omega)]
  simp [List.set_append]

theorem drop_cons (xs : List Nat) (k : Nat) (h : k < xs.length) : xs.drop k = xs.getD k 0 :: xs.drop (k + 1) := by
  rw [List.drop_eq_getElem_cons h]
  simp [h]

/-- The next limb of a row that is written from the left. -/
theorem Wr.next {w w' : World} {g : Nat} {xs pre zs A post : List Nat} {k : Nat} (h : Blk w g xs) (hz : zs.length = k) (hk : k < A.length) (hw : Wr w g (pre ++ (zs ++ A.drop k) ++ post) w') (z : Nat) :
    Wr w g (pre ++ ((zs ++ [z]) ++ A.drop (k + 1)) ++ post) (w'.setCell ⟨g, pre.length + k, none⟩ (.int .u32 z)) := by
  have := Wr.set h hw (pre.length + k) z
  rw [drop_cons A k hk, set_mid pre zs (A.drop (k + 1)) post k _ z hz] at this
  exact this

theorem Wr.next' {w w' : World} {g i : Nat} {xs pre zs A post : List Nat} {k : Nat} {v : Int} {z : Nat} (h : Blk w g xs) (hz : zs.length = k) (hk : k < A.length) (hw : Wr w g (pre ++ (zs ++ A.drop k) ++ post) w') (hi : pre.length + k = i) (hv : v = (z : Int)) :
    Wr w g (pre ++ ((zs ++ [z]) ++ A.drop (k + 1)) ++ post) (w'.setCell ⟨g, i, none⟩ (.int .u32 v)) := by
  subst hi
  subst hv
  exact Wr.next h hz hk hw z

theorem mid_get (pre zs A post : List Nat) (k : Nat) (hz : zs.length = k) (hk : k < A.length) : (pre ++ (zs ++ A.drop k) ++ post).getD (pre.length + k) 0 = A.getD k 0 := by
  subst hz
  rw [drop_cons A _ hk]
  simp [List.getD_eq_getElem?_getD, List.append_assoc, List.getElem?_append_right]
end Go.Proofs.Ytejhbjcgacblfaa
