/-
 A row whose number was written anew, in place.
-/
import Derived.Test.YtoeopdmaogmjhaaSetA
namespace Go.Proofs.Ytoeopdmaogmjhaa
open Go.RowKit Nt
set_option linter.unusedSimpArgs false
set_option linter.unusedVariables false
set_option maxRecDepth 20000

/-- A row whose number was written anew, in place. -/
theorem Res.rewritten {w W W' : World} {g c : Nat} {D rest Z : List Nat} {A : Nat} (hb : Below w.heap.size w W) (hg : Blk W g (D ++ rest)) (hB : w.heap.size ≤ g) (hc : c = D.length + rest.length) (hm : c ≤ maxLen) (ho : Ok rest)
  (hZ : Z.length = D.length) (hoZ : Ok Z) (hv : val Z = A) (hw : Wr W g (Z ++ rest) W') : Res w W' (some ⟨g, 0, none⟩) c A := by
 subst hv
 have hblk := Wr.blk hg hw
 have hd : Z.take (Nt.digs (val Z)).length = Nt.digs (val Z) := take_digs_val hoZ
 have hlz : (Nt.digs (val Z)).length ≤ Z.length := digs_le_length hoZ
 have hsp : Z ++ rest = Nt.digs (val Z) ++ (Z.drop (Nt.digs (val Z)).length ++ rest) := by
  rw [← List.append_assoc]
  congr 1
  conv => lhs; rw [← List.take_append_drop (Nt.digs (val Z)).length Z]
  rw [hd]
 have hok : Ok (Z.drop (Nt.digs (val Z)).length ++ rest) := (hoZ.drop _).append ho
 have hcl : c = (Nt.digs (val Z)).length + (Z.drop (Nt.digs (val Z)).length ++ rest).length := by
  rw [List.length_append, List.length_drop]
  omega
 rw [hsp] at hblk
 refine ⟨hw.below hb hB, ⟨rfl, by omega, hm, (fun e => by cases e), ok_digs _, ?_⟩, fun b o e => ?_⟩
 ·have := hblk.limbs.take (Nt.digs (val Z)).length
  rwa [List.take_left] at this
 ·simp only [Option.some.injEq, Addr.mk.injEq] at e
  obtain ⟨rfl, rfl, _⟩ := e
  exact ⟨rfl, hB, _, hblk, hok, hcl⟩
end Go.Proofs.Ytoeopdmaogmjhaa
