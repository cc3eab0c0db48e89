import Derived.Test.YtbkobojhkhiohaaGreatDtA
import Derived.Test.YtbkobojhkhiohaaGreatHxA
set_option linter.all false
namespace Go.Proofs.YtbkobojhkhiohaaGreat
open Go Go.RowKit Nt
set_option maxRecDepth 20000
set_option maxHeartbeats 16000000
def gr (Bm : List (List Int)) : Nat → Nat → Int := fun r c => dotR (Bm.getD r []) (Bm.getD c [])
theorem yx7 {A B q : Int} (hB : B ≠ 0) (h : A = B * q) : fl A B = q ∧ rm A B = 0 :=
 yfe hB (by rw [h, zhx]; omega) (fun h => ⟨by omega, h⟩) (fun h => ⟨h, by omega⟩)
section
variable {G : Dt.Mt} {D L M : List Int} {i j K : Nat}
end


theorem ze4 : ∀ v w, Is (.agg #[.slice none 0 0, .slice none 0 0]) v w → SF [Is (.slice none 0 0), Is (.slice none 0 0)] v w := fun v w h => ⟨_, h, rfl, by simp [Value.oneCell'], fun f q hq => by
 match f, hq with
 | 0, hq => simp at hq; subst hq; exact ⟨_, rfl, rfl⟩
 | 1, hq => simp at hq; subst hq; exact ⟨_, rfl, rfl⟩⟩
theorem ysv {w : World} {lo e size n : Nat} {v : Value} {xs : List Value} (h : w.ownsRow lo e size v n xs) : ∃ p c, v = .slice p n c := by
 rcases h.2 with ⟨e1, e2⟩ | ⟨g, cap, cur, e1, _⟩
 ·exact ⟨none, 0, by rw [e2]; exact e1⟩
 ·exact ⟨_, _, e1⟩
section
variable {ops : Array Oper} {l : List Kd} {bx : Bxs} {sl : List (Tmp × Pr)} {i : Nat} {o : Oper} {Q : Exit → Act → World → Prop} {a0 : Act} {n : Nat} {w0 : World}
theorem yss {T T' : TypeId} {t k f j d e size m : Nat} {χ : List Value → World → Prop} {x : Operand} {ps : List Pr} {xh : Value} (ho : ops[i]? = some o) (hw : Wants ops l bx sl i o) (hop : o.op = .store T' x (.tmp d)) (hx : Opnd ops l bx sl i x (Part a0 t f)) (hb : bx[k]? = some (t, .box T (SF ps))) (hn : unturned ops l i (.inl t) = true)
  (hj : ((depsOf ops i).contains j && unturned ops l i (.inr j)) = true) (hkj : kdAt l j = .new (.row e size m χ)) (hd : dstOf ops j = some d) (hS : Store1 T') (hf : f < ps.length) (hk : kdAt l i = .put (.inl t) (.box T (SF (ps.set f (Is xh))))) : OwedX Tryz.prog ops Q l bx sl a0 n w0 j xh i := fun vs B a w hv c o' ho' => by
 obtain rfl : o = o' := Option.some.inj (ho.symm.trans ho')
 simp only [zf1] at hj
 obtain ⟨b, u, hp0, hB, hu, hφ⟩ := c.box t _ (zfc hb) hn
 obtain ⟨b', hb0, hv0⟩ := (hx a0 n w0 vs B a w c).now
 rw [hp0] at hb0
 simp at hb0
 subst hb0
 obtain ⟨en, hat⟩ := c.news j d _ (by simpa using hj.1) (by rw [hkj]; rfl) hd
 obtain ⟨xs, hown, _⟩ := hat hj.2
 rw [hv] at en hown
 obtain ⟨p, cc, es⟩ := ysv hown
 obtain ⟨cs, rfl, h2, h3, h4⟩ := hφ.now
 obtain ⟨v, hcv, _⟩ := h4 f (ps[f]'hf) (by simp [hf])
 have hfl : Flat (a.eval (.tmp d)) := Or.inl ⟨p, m, cc, en.trans es⟩
 have h := hS a.eval w o x (.tmp d) b f v hv0 (yn2 hu hcv) (ymw hu) hfl
 have h' : (execOp a.eval o).run Tryz.prog w = .ok .skip (w.setCell ⟨b, f, none⟩ (a.eval (.tmp d))) := by
  rw [← h]
  unfold execOp
  rw [hop]
 simp only [wpOp, ho]
 rw [if_pos (hw a0 n w0 vs B a w c)]
 refine Or.inl ?_
 unfold Oper.wp
 rw [h', Oper.upon_skip]
 exact ⟨undef, rfl, by rw [hk]; exact yw7 (x := .inl t) (χ := Is xh) (fun b h => yc2 (x := .inl t) (zfc hb) rfl h) hp0 hB hu hφ (fun _ _ => en) hfl.one _⟩
theorem ysr {T T' : TypeId} {t k f j d e size m g : Nat} {χ : List Value → World → Prop} {x : Operand} {ps : List Pr} {xh : Value} (ho : ops[i]? = some o) (hw : Wants ops l bx sl i o) (hop : o.op = .store T' x (.tmp d)) (hx : Opnd ops l bx sl i x (Part a0 t f)) (hb : bx[k]? = some (t, .box T (SF ps))) (hn : unturned ops l i (.inl t) = true)
  (hj : ((depsOf ops i).contains j && unturned ops l i (.inr j)) = true) (hkj : kdAt l j = .mov g (.row e size m χ)) (hd : dstOf ops j = some d) (hS : Store1 T') (hf : f < ps.length) (hk : kdAt l i = .put (.inl t) (.box T (SF (ps.set f (Is xh))))) : OwedX Tryz.prog ops Q l bx sl a0 n w0 j xh i := fun vs B a w hv c o' ho' => by
 obtain rfl : o = o' := Option.some.inj (ho.symm.trans ho')
 simp only [zf1] at hj
 obtain ⟨b, u, hp0, hB, hu, hφ⟩ := c.box t _ (zfc hb) hn
 obtain ⟨b', hb0, hv0⟩ := (hx a0 n w0 vs B a w c).now
 rw [hp0] at hb0
 simp at hb0
 subst hb0
 obtain ⟨en, hat⟩ := c.news j d _ (by simpa using hj.1) (by rw [hkj]; rfl) hd
 obtain ⟨xs, hown, _⟩ := hat hj.2
 rw [hv] at en hown
 obtain ⟨p, cc, es⟩ := ysv hown
 obtain ⟨cs, rfl, h2, h3, h4⟩ := hφ.now
 obtain ⟨v, hcv, _⟩ := h4 f (ps[f]'hf) (by simp [hf])
 have hfl : Flat (a.eval (.tmp d)) := Or.inl ⟨p, m, cc, en.trans es⟩
 have h := hS a.eval w o x (.tmp d) b f v hv0 (yn2 hu hcv) (ymw hu) hfl
 have h' : (execOp a.eval o).run Tryz.prog w = .ok .skip (w.setCell ⟨b, f, none⟩ (a.eval (.tmp d))) := by
  rw [← h]
  unfold execOp
  rw [hop]
 simp only [wpOp, ho]
 rw [if_pos (hw a0 n w0 vs B a w c)]
 refine Or.inl ?_
 unfold Oper.wp
 rw [h', Oper.upon_skip]
 exact ⟨undef, rfl, by rw [hk]; exact yw7 (x := .inl t) (χ := Is xh) (fun b h => yc2 (x := .inl t) (zfc hb) rfl h) hp0 hB hu hφ (fun _ _ => en) hfl.one _⟩
end



theorem ysz {P : Int} {Q : Nat} (hQ : Q ≠ 0) : nR P Q * (Q : Int) = P * (dR P Q : Int) := ygo P Q

section
variable {G : Nat → Nat → Int} {mm KK : Nat}
end
abbrev qs (l : List (Int × Nat)) : List (Nat → Pr) := l.map (fun p => QQ p.1 p.2)
def QW (P : Int) (Q k : Nat) : Pr := fun v w => ∃ (A : Int) (D : Nat), D ≠ 0 ∧ A * (Q : Int) = P * (D : Int) ∧ Rv A (D : Int) k k v w
theorem zcj {P : Int} {Q k lo : Nat} (hQ : Q ≠ 0) (b1 : (digs P.natAbs).length ≤ k) (b2 : (digs Q).length ≤ k) : ∀ v w, QQ P Q lo v w → QW P Q k v w := fun v w h => ⟨_, _, yeh hQ, ysz hQ, yi6 b1 b2 v w h⟩
theorem ywz {N D : Int} {k : Nat} (hD : 0 < D) : ∀ v w, PR (Zv N k) (Zv D k) v w → QW N D.toNat k v w := fun v w h => ⟨N, D.toNat, by omega, rfl, by rw [show ((D.toNat : Nat) : Int) = D by omega]; exact h⟩
theorem yzc {P P' : Int} {Q Q' k k' : Nat} (hQ : Q ≠ 0) (hQ' : Q' ≠ 0) (hk : k ≤ 8388608) (hk' : k' ≤ 8388608) :
  ∀ w u v, QW P Q k u w → QW P' Q' k' v w → CG 26 #[u, v] w (QQ (P * (Q' : Int) + P' * (Q : Int)) (Q * Q')) := fun w u v ⟨A, D, hD, e1, h⟩ ⟨N, M, hM, e2, h'⟩ => by
 have := yno hD hM hk hk hk' hk' w u v h h'
 refine Gives.cast this (yhs (zfu hD hM) (zfu hQ hQ') ?_)
 simp only [zfh]
 clear this h h'
 generalize (Q : Int) = q at *
 generalize (Q' : Int) = q' at *
 generalize (D : Int) = d at *
 generalize (M : Int) = m at *
 grind
theorem yzd {P P' : Int} {Q Q' k k' : Nat} (hQ : Q ≠ 0) (hQ' : Q' ≠ 0) (hk : k ≤ 8388608) (hk' : k' ≤ 8388608) :
  ∀ w u v, QW P Q k u w → QW P' Q' k' v w → CG 56 #[u, v] w (QQ (P * (Q' : Int) + (-P') * (Q : Int)) (Q * Q')) := fun w u v ⟨A, D, hD, e1, h⟩ ⟨N, M, hM, e2, h'⟩ => by
 have := yyg hD hM hk hk hk' hk' w u v h h'
 have hM' := yeh (X := -N) hM
 have e3 := ysz (P := -N) hM
 refine Gives.cast this (yhs (zfu hD hM') (zfu hQ hQ') ?_)
 simp only [zfh]
 clear this h h'
 generalize nR (-N) M = n' at *
 generalize (dR (-N) M : Int) = d' at *
 have hm : (M : Int) ≠ 0 := by omega
 have e4 : n' * (Q' : Int) = -P' * d' := by
  refine Int.eq_of_mul_eq_mul_right hm ?_
  generalize (Q' : Int) = q' at *
  generalize (M : Int) = m at *
  grind
 generalize (Q : Int) = q at *
 generalize (Q' : Int) = q' at *
 generalize (D : Int) = d at *
 grind

end Go.Proofs.YtbkobojhkhiohaaGreat
