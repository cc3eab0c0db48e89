/-
 Lists one behind the other: what is appended is a whole list; a row that is grown ahead.
-/
import Derived.Test.YtbkobojhkhiohaaGreatVcA
import Derived.Lib.AppendZerosOnto
import Derived.Laws.OwnMore
set_option linter.all false
namespace Go.Proofs.YtbkobojhkhiohaaGreat
open Go Go.RowKit Nt
set_option maxRecDepth 20000

/-- The cells of a list that stays. -/
theorem zad {B : Nat → Prop} {w : World} {sz m : Nat} {φs : List Pr} {v : Value} (hz : 0 < sz) (hc : ∀ (i : Nat) φ, φs[i]? = some φ → Cel sz φ) (h : Has B w (Ar sz m φs) v) :
  ∃ p c us, v = .slice p m c ∧ us.length = m ∧ φs.length = m ∧ (∀ u ∈ us, Celv sz u) ∧ (p = none → m = 0 ∧ c = 0) ∧ (∀ ad, p = some ad → ∀ (j : Nat) x, (cellsOf us)[j]? = some x → w.cell? (ad.add j) = some x) ∧ ∀ w', Ev B w w' → ∀ (i : Nat) u φ, us[i]? = some u → φs[i]? = some φ → φ u w' := by
 obtain ⟨p, c, e, hl, ⟨h1, h2, h3⟩, ha⟩ := id h.now
 have each : ∀ i, ∃ u : Value, ∀ φ, φs[i]? = some φ → (∃ b o, p = some ⟨b, o, none⟩ ∧ ∀ (j : Nat) x, u.cells[j]? = some x → w.cell? ⟨b, o + sz * i + j, none⟩ = some x) ∧ Celv sz u ∧ Has B w φ u := fun i => by
  cases hφ : φs[i]? with
  | none => exact ⟨undef, fun φ h => by cases h⟩
  | some φ =>
   obtain ⟨b, o, c', e', hlt, hat⟩ := yum h hφ
   obtain ⟨b', o', u, e2, hcells, hcv, hhas⟩ := yq8 hz (hc i φ hφ) hat
   rw [e] at e'
   cases e'
   cases e2
   refine ⟨u, fun φ' h' => ?_⟩
   cases h'
   exact ⟨⟨b, o, rfl, hcells⟩, hcv, hhas⟩
 obtain ⟨F, hF⟩ : ∃ F : Nat → Value, ∀ i φ, φs[i]? = some φ → (∃ b o, p = some ⟨b, o, none⟩ ∧ ∀ (j : Nat) x, (F i).cells[j]? = some x → w.cell? ⟨b, o + sz * i + j, none⟩ = some x) ∧ Celv sz (F i) ∧ Has B w φ (F i) := ⟨fun i => Classical.choose (each i), fun i => zg0 (each i)⟩
 have hget : ∀ (i : Nat) u, ((List.range m).map F)[i]? = some u → i < m ∧ u = F i := fun i u hu => by
  obtain ⟨j, hj, rfl⟩ := ya3 hu
  have hi : i < m := by simpa using (zfa.1 hj).1
  rw [zf0 hi] at hj
  cases hj
  exact ⟨hi, rfl⟩
 have hphi : ∀ i, i < m → ∃ φ, φs[i]? = some φ := fun i hi => ⟨φs[i]'(by omega), zfb _⟩
 have hcv : ∀ u ∈ (List.range m).map F, Celv sz u := fun u hu => by
  obtain ⟨i, hi, rfl⟩ := List.mem_iff_getElem.1 hu
  obtain ⟨hlt, e'⟩ := hget i _ (zfb hi)
  rw [e']
  obtain ⟨φ, hφ⟩ := hphi i hlt
  exact (hF i φ hφ).2.1
 refine ⟨p, c, (List.range m).map F, e, by simp, hl, hcv, fun hp => ⟨?_, h3 hp⟩, fun ad had j x hx => ?_, fun w' ev i u φ hu hφ => ?_⟩
 ·have := h3 hp
  omega
 ·have hlen := ybx hcv
  have hj : j < m * sz := by
   have := (zfa.1 hx).1
   rw [hlen] at this
   simpa using this
  have hq : j / sz < m := zgc (by rw [ze8]; exact hj)
  have hr : j % sz < sz := zf3 _ hz
  have hjj : j = (j / sz) * sz + j % sz := by rw [ze8]; exact (zf2 j sz).symm
  obtain ⟨φ, hφ⟩ := hphi _ hq
  obtain ⟨⟨b, o, hp, hcl⟩, _, _⟩ := hF _ φ hφ
  rw [hp] at had
  cases had
  have hg := yev hcv (k := j / sz) (u := F (j / sz)) (by rw [zfg, zf0 hq]; rfl) (j % sz) hr
  rw [← hjj, hx] at hg
  rw [yb8, show o + j = o + sz * (j / sz) + j % sz from by rw [ze8 sz, Nat.add_assoc, ← hjj]]
  exact hcl _ x hg.symm
 ·obtain ⟨hlt, rfl⟩ := hget i u hu
  exact (hF i φ hφ).2.2 w' ev
section
variable {ops : Array Oper} {l : List Kd} {bx : Bxs} {sl : List (Tmp × Pr)} {i : Nat} {o : Oper} {Q : Exit → Act → World → Prop} {a0 : Act} {n0 : Nat} {w0 : World}
/-- A whole list is appended. -/
theorem yns {x y : Operand} {T t k e size bytes n m : Nat} {φs φs2 : List Pr} (ho : ops[i]? = some o) (hw : Wants ops l bx sl i o) (hop : o.op = .call { callee := .builtin .append, args := #[x, y], argTypes := #[T, T] })
  (hx : Opnd ops l bx sl i x (Is (a0.eval (.tmp t)))) (hb : bx[k]? = some (t, .row e size n (CE size φs))) (hn : unturned ops l i (.inl t) = true) (hy : Opnd ops l bx sl i y (Ar size m φs2)) (hc2 : ∀ (i : Nat) φ, φs2[i]? = some φ → Cel size φ) (hE : EInf e size bytes) (hT : Tryz.prog.underlying T = some (.slice e))
  (hl : n + m ≤ maxLen ∧ (n + m) * bytes ≤ 140737488355328) (hk : kdAt l i = .mov t (.row e size (n + m) (CE size (φs ++ φs2)))) : Owed Tryz.prog ops Q l bx sl a0 n0 w0 i := fun vs B a w c o' ho' => by
 obtain rfl : o = o' := Option.some.inj (ho.symm.trans ho')
 have hxv : a.eval x = a0.eval (.tmp t) := (hx a0 n0 w0 vs B a w c).now
 obtain ⟨xs, hown, hB, hχ⟩ := c.box t _ (zfc hb) hn
 obtain ⟨⟨i0, z, hi, hz, hsz, hby, hzs⟩, hpos⟩ := id hE
 obtain ⟨p, c', us, e1, hul, hfl, hcv, hnil, hcells, hall⟩ := zad hpos hc2 (hy a0 n0 w0 vs B a w c)
 have hlo : w0.heap.size ≤ w.heap.size := c.lo
 have hys : (cellsOf us).length = m * size := by rw [ybx hcv, hul]
 have hvb : vblock (a0.eval (.tmp t)) = (a0.eval (.tmp t)).ownBlock := yhb _ (fun ad ea => by
  rcases hown.2 with ⟨e', _⟩ | ⟨g', cap, cur, e', _⟩ <;> rw [e'] at ea <;> cases ea)
 have hone : ∀ u ∈ cellsOf us, u.oneCell' = true := fun u hu => by
  obtain ⟨q, hq, hm⟩ := List.mem_flatMap.1 hu
  have := (hcv q hq).one
  rw [zgt] at this
  exact this u (by simpa using hm)
 obtain ⟨v', w', hr, o1, o2, hwh⟩ : ∃ v' w', (Builtin.append_ #[T, T] o.type #[a0.eval (.tmp t), .slice p m c']).run Tryz.prog w = .ok v' w' ∧ w'.ownsRow w0.heap.size e size v' (n + m) (xs ++ cellsOf us) ∧ w.grownBy w' (a0.eval (.tmp t)).ownBlock ∧ ∀ b, vblock v' = some b → vblock (a0.eval (.tmp t)) = some b ∨ (w.heap.size ≤ b ∧ b < w'.heap.size) := by
  cases hp : p with
  | none =>
   obtain ⟨rfl, rfl⟩ := hnil hp
   have hu0 : us = [] := zfw.1 hul
   subst hu0
   exact ⟨_, w, run_append_owned_none (P := Tryz.prog) w w0.heap.size T o.type e i0 size hT hi _ n xs hown, by simpa [cellsOf] using hown, ⟨rfl, rfl, rfl, ze5 _, fun _ _ _ => rfl⟩, fun b hb' => Or.inl hb'⟩
  | some ad =>
   obtain ⟨v', w', hr, o1, o2, _⟩ := run_append_own (P := Tryz.prog) w w0.heap.size T o.type e i0 z size bytes hT hi hz hsz hby hzs hpos _ n xs hown ad m c' (cellsOf us) hys (hcells ad hp) hone hl.1 hl.2 hlo
   exact ⟨v', w', hr, o1, o2, ye8 hE hT hown hys (hcells ad hp) hone hl.1 hl.2 hr o1⟩
 have hc := yia o2 hvb
 simp only [wpOp, ho]
 rw [if_pos (hw a0 n0 w0 vs B a w c)]
 refine Or.inl ?_
 unfold Oper.wp
 have h : (execOp a.eval o).run Tryz.prog w = .ok (.value v') w' := by
  unfold execOp
  rw [hop]
  simp only [resolve, invoke, builtin, Sem.run_bind, Sem.run_pure, Result.andThen_ok, zik, zgz, zi0, hxv, e1, hr]
 rw [h, Oper.upon_value]
 refine ⟨v', rfl, ?_⟩
 rw [hk]
 have ev : Ev B w w' := ⟨hc.os, hc.tape, hc.output, hc.size, fun k hk' hn' => hc.block k hk' (fun hs => hn' (hB k hs))⟩
 have hsub : ∀ k, k < w.heap.size → (B k ∨ vblock v' = some k) → B k := fun k hk' h' => by
  rcases h' with h' | h'
  ·exact h'
  ·rcases hwh k h' with h'' | h''
   ·exact hB k h''
   ·omega
 exact ysn (zfc hb) rfl rfl hc hwh ⟨xs ++ cellsOf us, o1, fun b hb' => Or.inr hb', fun w'' e'' => ye9 _ _ _ (hχ _ (ev.back hsub e'')) ⟨us, rfl, by rw [hul, hfl], hcv, hall _ (ev.back hsub e'')⟩⟩
end
end Go.Proofs.YtbkobojhkhiohaaGreat
