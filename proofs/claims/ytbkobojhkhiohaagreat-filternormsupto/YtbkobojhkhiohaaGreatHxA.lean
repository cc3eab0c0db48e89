import Derived.Test.YtbkobojhkhiohaaGreatGsD
set_option linter.all false
namespace Go.Proofs.YtbkobojhkhiohaaGreat
open Go Go.RowKit Nt
set_option maxRecDepth 20000
set_option maxHeartbeats 16000000
section
variable {ops : Array Oper} {l : List Kd} {bx : Bxs} {sl : List (Tmp × Pr)} {i : Nat} {o : Oper} {Q : Exit → Act → World → Prop} {a0 : Act} {n0 : Nat} {w0 : World}
end
section
variable {ops : Array Oper} {l : List Kd} {bx : Bxs} {sl : List (Tmp × Pr)} {i : Nat} {o : Oper} {Q : Exit → Act → World → Prop} {a0 : Act} {n0 : Nat} {w0 : World}
end
end Go.Proofs.YtbkobojhkhiohaaGreat

namespace Go.Proofs.YtbkobojhkhiohaaGreat
open Go Go.RowKit
set_option maxRecDepth 20000
set_option maxHeartbeats 16000000
section
variable {P : Program} {ops : Array Oper} {Q : Exit → Act → World → Prop} {l l' : List Kd} {bx : Bxs} {sl : List (Tmp × Pr)} {n : Nat} {B0 : Nat → Prop} {a0 : Act} {W w0 : World} {L : Nat → Bool}
theorem Alive.congr (h : ∀ i, L i = true → kdAt l i = kdAt l' i) {x : Id} (hx : Alive l bx L x) : Alive l' bx L x := by
 refine ⟨fun i r t hi hk => hx.1 i r t hi ((h i hi).trans hk), ?_⟩
 cases x with
 | inl t => exact hx.2
 | inr i => exact ⟨hx.2.1, by rw [← h i hx.2.1]; exact hx.2.2⟩
theorem Alive.ran {x : Id} (hx : Alive l bx L x) : ∀ j, x = .inr j → L j = true := fun j e => by subst e; exact hx.2.1
theorem Init.congr (h : ∀ i, L i = true → kdAt l i = kdAt l' i) {x : Id} {r : Rk} (hx : ∀ j, x = .inr j → L j = true) (hi : Init l bx x r) : Init l' bx x r := by
 cases x with
 | inl t => exact hi
 | inr i => show (kdAt l' i).rk = some r; rw [← h i (hx i rfl)]; exact hi
theorem idset.congr (h : ∀ i, L i = true → kdAt l i = kdAt l' i) {vs : Nat → Value} {x : Id} {b : Nat} (hx : ∀ j, x = .inr j → L j = true) (hi : idset l bx a0 vs x b) : idset l' bx a0 vs x b := by
 obtain ⟨r, h1, h2⟩ := hi
 exact ⟨r, Init.congr h hx h1, h2⟩
theorem Held.congr (S : Shape ops l bx n) (h : ∀ i, L i = true → kdAt l i = kdAt l' i) {vs : Nat → Value} {B : Nat → Prop} {w : World} (H : Held ops l bx B0 a0 W w0 L vs B w) : Held ops l' bx B0 a0 W w0 L vs B w := by
 have h' : ∀ i, L i = true → kdAt l' i = kdAt l i := fun i hi => (h i hi).symm
 refine ⟨H.ent, H.ev, H.bnd, H.old, H.deps, fun i φ hi hk => H.val i φ hi (by rw [h i hi]; exact hk), fun i j hi hk => H.rf i j hi ((h i hi).trans hk), fun x r hx hin hn => ?_, fun i x r hi hk hx hlast => ?_, fun x b hx hb => ?_, fun x y b hx hy hbx hby => ?_, fun i x r hi hk b hb => ?_⟩
 ·exact H.live x r (hx.congr h') (Init.congr h' hx.ran hin) (fun i r' hi hk => hn i r' hi (by rw [← h i hi]; exact hk))
 ·exact H.put i x r hi (by rw [h i hi]; exact hk) (hx.congr h') (fun k hk' ht => hlast k hk' (by rw [← h k hk']; exact ht))
 ·exact H.inB x b (hx.congr h') (idset.congr h' hx.ran hb)
 ·exact H.sep x y b (hx.congr h') (hy.congr h') (idset.congr h' hx.ran hbx) (idset.congr h' hy.ran hby)
 ·have hk' : (kdAt l i).pt = some (x, r) := by rw [h i hi]; exact hk
  refine idset.congr h (fun j e => ?_) (H.pset i x r hi hk' b hb)
  subst e
  exact (H.deps i hi).2 j (S.tnew i j (H.deps i hi).1 (Kd.pt_turns hk')).1
def OwedX (P : Program) (ops : Array Oper) (Q : Exit → Act → World → Prop) (l : List Kd) (bx : Bxs) (sl : List (Tmp × Pr)) (a0 : Act) (n : Nat) (w0 : World) (j : Nat) (x : Value) (i : Nat) : Prop :=
 ∀ (vs : Nat → Value) (B : Nat → Prop) (a : Act) (w : World), vs j = x → Ctx ops l bx sl a0 n w0 i vs B a w → ∀ o, ops[i]? = some o → wpOp P ops Q i (fun a' w' => ∃ v, a' = a.put o.dst v ∧ (kdAt l i).out l bx w0.heap.size a0 vs B w v w') a w
theorem Owed.x {i j : Nat} {x : Value} (h : Owed P ops Q l bx sl a0 n w0 i) : OwedX P ops Q l bx sl a0 n w0 j x i := fun vs B a w _ c => h vs B a w c
variable {lv : Value → List Kd} {j : Nat}
theorem Held.runX (hdep : ∀ i, j ∉ depsOf ops i → ∀ x y, kdAt (lv x) i = kdAt (lv y) i) (S : ∀ x, Shape ops (lv x) bx n) (T0 : Sta w0 n bx sl B0 a0 W) (hop : ∀ x, AllOwed (OwedX P ops Q (lv x) bx sl a0 n w0 j x) ops.size) {vs : Nat → Value} {B : Nat → Prop} {w : World} (H : Held ops (lv (vs j)) bx B0 a0 W w0 L vs B w) {i : Nat} (hi : i < ops.size) (hL : L i = false) (hd : ∀ k ∈ depsOf ops i, L k = true)
  {K : Act → World → Prop} (hK : ∀ v B' w', Held ops (lv (upd vs i v j)) bx B0 a0 W w0 (upd L i true) (upd vs i v) B' w' → K (fillL ops.toList 0 (upd L i true) (upd vs i v) a0) w') : wpOp P ops Q i K (fillL ops.toList 0 L vs a0) w := by
 have ho : ops[i]? = some ops[i] := by simp [hi]
 refine wpOp_mono ?_ ((hop (vs j)).get i hi vs B _ w rfl (H.ctx (S _) T0 hi hL hd) _ ho)
 rintro a' w' ⟨v, rfl, hout⟩
 obtain ⟨B', H'⟩ := H.step (S _) hi hL hd hout
 have hst := ygz ops.toList 0 i ops[i] L vs a0 v (S (vs j)).dsts (by simp [hi]) (by simpa using hL)
 rw [zf7] at hst
 rw [hst]
 refine hK v B' w' ?_
 by_cases e : i = j
 ·subst e
  rw [yfn]
  refine H'.congr (S _) (fun k hk => hdep k (fun hm => ?_) _ _)
  by_cases ek : k = i
  ·subst ek
   exact absurd ((S (vs k)).low k k hi hm) (Nat.lt_irrefl _)
  ·rw [ydy _ _ ek] at hk
   have := (H.deps k hk).2 i hm
   rw [hL] at this
   cases this
 ·rw [ydy _ _ (Ne.symm e)]
  exact H'
theorem yoc (hdep : ∀ i, j ∉ depsOf ops i → ∀ x y, kdAt (lv x) i = kdAt (lv y) i) (S : ∀ x, Shape ops (lv x) bx n) (T0 : Sta w0 n bx sl B0 a0 W) (hop : ∀ x, AllOwed (OwedX P ops Q (lv x) bx sl a0 n w0 j x) ops.size)
  (fin : ∀ vs B w, Held ops (lv (vs j)) bx B0 a0 W w0 (fun i => decide (i < ops.size)) vs B w → Q .normal (fillL ops.toList 0 (fun i => decide (i < ops.size)) vs a0) w) :
  ∀ (fuel : Nat) (listed : Array Bool) (vs : Nat → Value) (B : Nat → Prop) (w : World), listed.size = ops.size → leftOver listed ≤ fuel →
   Held ops (lv (vs j)) bx B0 a0 W w0 (flags listed) vs B w → wpAny P .any ops Q fuel listed (fillL ops.toList 0 (flags listed) vs a0) w := by
 have hend : ∀ (listed : Array Bool) vs B w, listed.size = ops.size → leftOver listed = 0 → Held ops (lv (vs j)) bx B0 a0 W w0 (flags listed) vs B w → Region.ready .any ops listed = [] ∧ Q .normal (fillL ops.toList 0 (flags listed) vs a0) w := by
  intro listed vs B w hs hl H
  have hall : ∀ i, i < ops.size → listed.getD i false = true := by
   intro i hi
   have hi' : i < listed.size := by omega
   have : ∀ b ∈ listed.toList, b = true := by
    intro b hb
    have h0 := zin.1 hl b hb
    simpa using h0
   have := this listed[i] (by simp)
   simp [hi', this]
  have hfl : flags listed = fun i => decide (i < ops.size) := by
   funext i
   by_cases hi : i < ops.size
   ·simp only [flags, hi, decide_true]; exact hall i hi
   ·simp only [flags, hi, decide_false]
    have : listed[i]? = none := zhg (by omega)
    simp [this]
  constructor
  ·apply List.eq_nil_iff_forall_not_mem.2
   intro i hi
   obtain ⟨h0, o, ho, _⟩ := mem_ready.1 hi
   have hlt : i < ops.size := (zfi.1 ho).1
   have := hall i hlt
   have hlt' : i < listed.size := by omega
   simp [hlt'] at h0 this
   rw [h0] at this
   cases this
  ·rw [hfl] at H ⊢
   exact fin vs B w H
 intro fuel
 induction fuel with
 | zero =>
  intro listed vs B w hs hl H
  exact hend listed vs B w hs (by omega) H
 | succ fuel ih =>
  intro listed vs B w hs hl H
  refine ⟨fun hr => ?_, fun i hi => ?_⟩
  ·have hall : ∀ i, i < ops.size → flags listed i = true := by
    intro i
    induction i using Nat.strongRecOn with
    | ind i IH =>
     intro hi
     apply Classical.byContradiction
     intro hn
     have hi' : i < listed.size := by omega
     have hm : i ∈ Region.ready .any ops listed := by
      refine mem_ready.2 ⟨?_, ops[i], by simp [hi], fun e he hb => ?_⟩
      ·simp [flags, hi'] at hn ⊢
       exact hn
      ·have hj : e.on ∈ depsOf ops i := by
        simp only [depsOf, zfz hi, zib]
        exact ⟨e, by simpa using he, by simp [hb]⟩
       have hlt := (S (vs j)).low i e.on hi hj
       exact IH e.on hlt (by omega)
     rw [hr] at hm
     cases hm
   have h0 : leftOver listed = 0 := by
    refine zin.2 (fun b hb => ?_)
    obtain ⟨i, hi, rfl⟩ := List.getElem_of_mem hb
    have hi' : i < listed.size := by simpa using hi
    have := hall i (by omega)
    simp [flags, hi'] at this
    simp [this]
   exact (hend listed vs B w hs h0 H).2
  ·obtain ⟨h0, o, ho, hall⟩ := mem_ready.1 hi
   have hlt : i < ops.size := (zfi.1 ho).1
   have hlt' : i < listed.size := by omega
   have hLi : flags listed i = false := by
    simp [flags, hlt'] at h0 ⊢
    exact h0
   have hdeps : ∀ j ∈ depsOf ops i, flags listed j = true := by
    intro j hj
    simp only [depsOf, ho, zib] at hj
    obtain ⟨e, he, hee⟩ := hj
    split at hee
    ·rename_i hb
     cases hee
     exact hall e (by simpa using he) hb
    ·cases hee
   refine H.runX hdep S T0 hop hlt hLi hdeps (fun v B' w' H' => ?_)
   rw [← yl5 hlt'] at H' ⊢
   exact ih _ _ B' w' (by simp [hs]) (by have := yhg h0; omega) H'
theorem yod (hdep : ∀ i, j ∉ depsOf ops i → ∀ x y, kdAt (lv x) i = kdAt (lv y) i) (S : ∀ x, Shape ops (lv x) bx n) (T0 : Sta w0 n bx sl B0 a0 W) (hop : ∀ x, AllOwed (OwedX P ops Q (lv x) bx sl a0 n w0 j x) ops.size)
  (fin : ∀ vs B w, Held ops (lv (vs j)) bx B0 a0 W w0 (fun i => decide (i < ops.size)) vs B w → Q .normal (fillL ops.toList 0 (fun i => decide (i < ops.size)) vs a0) w) :
  ∀ (m k : Nat) (vs : Nat → Value) (B : Nat → Prop) (w : World), k + m = ops.size → Held ops (lv (vs j)) bx B0 a0 W w0 (fun i => decide (i < k)) vs B w → wpOps P ops Q (List.range' k m) (fillL ops.toList 0 (fun i => decide (i < k)) vs a0) w := by
 intro m
 induction m with
 | zero =>
  intro k vs B w hk H
  obtain rfl : k = ops.size := by omega
  simp only [List.range'_zero, wpOps]
  exact fin vs B w H
 | succ m ih =>
  intro k vs B w hk H
  rw [List.range'_succ, wpOps_cons]
  have hi : k < ops.size := by omega
  refine H.runX hdep S T0 hop hi (by simp) (fun j' hj' => by simpa using (S (vs j)).low k j' hi hj') (fun v B' w' H' => ?_)
  have e : upd (fun i => decide (i < k)) k true = fun i => decide (i < k + 1) := by
   funext j
   by_cases e : j = k
   ·subst e; rw [yfn]; simp
   ·rw [ydy _ _ e]
    simp only [decide_eq_decide]
    omega
  rw [e] at H' ⊢
  exact ih (k + 1) _ B' w' (by omega) H'
theorem ypy {id : Nat} {draw : Bool} (j : Nat) (lv : Value → List Kd) (s1 s2 : List (Nat ⊕ Nat)) (hm : P.follows .mixedOrders = true) (T0 : Sta w0 n bx sl B0 a0 W) (hl : ∀ x, (lv x).length = ops.size) (hc : ∀ x, (shapeOk ops (lv x) (bx.map (·.1)) n && pickOk ops (lv x) bx s1) = true)
  (hj : j < ops.size) (hdep : ∀ x y, AllOwed (fun i => j ∉ depsOf ops i → kdAt (lv x) i = kdAt (lv y) i) ops.size)
  (hop : ∀ x, AllOwed (OwedX P ops Q (lv x) bx sl a0 n w0 j x) ops.size)
  (fin : ∀ x B a w, (∀ d, dstOf ops j = some d → a.eval (.tmp d) = x) → Sta w0 n (pickBx ops (lv x) bx s1) (pickSl ops (lv x) sl s2) B a w → Q .normal a w) : (Code.region id ops draw).wp P Q a0 W := by
 have hc' : ∀ x, shapeOk ops (lv x) (bx.map (·.1)) n = true ∧ pickOk ops (lv x) bx s1 = true := fun x => by simpa using hc x
 have S : ∀ x, Shape ops (lv x) bx n := fun x => yps (hc' x).1
 have hdep' : ∀ i, j ∉ depsOf ops i → ∀ x y, kdAt (lv x) i = kdAt (lv y) i := fun i hi x y => by
  rcases zge i ops.size with h | h
  ·exact (hdep x y).get i h hi
  ·unfold kdAt
   rw [ze7, ze7, zf4 (by rw [hl]; exact h), zf4 (by rw [hl]; exact h)]
 have fin' : ∀ vs B w, Held ops (lv (vs j)) bx B0 a0 W w0 (fun i => decide (i < ops.size)) vs B w → Q .normal (fillL ops.toList 0 (fun i => decide (i < ops.size)) vs a0) w := fun vs B w H => by
  refine fin (vs j) _ _ _ (fun d hd => ?_) (H.done (S _) (hl _) T0 s1 s2 (hc' _).2)
  cases ho : ops[j]? with
  | none => simp [dstOf, ho] at hd
  | some o =>
   have := yhz ops.toList 0 j o (fun i => decide (i < ops.size)) vs a0 d (S (vs j)).dsts (by simpa using ho) (by simpa using hj) (by simpa [dstOf, ho] using hd) (by rw [T0.siz]; exact (S (vs j)).slot j d hd)
   simpa using this
 cases draw with
 | false =>
  refine wp_region ?_
  have H := Held.start (ops := ops) (l := lv ((fun _ => undef : Nat → Value) j)) (S _) T0 (Below.refl _ W) rfl
  have h0 : (fun i => decide (i < 0)) = fun _ : Nat => false := by funext i; simp
  have := yod hdep' S T0 hop fin' ops.size 0 (fun _ => undef) B0 W (by simp) (by rw [h0]; exact H)
  rw [h0, ygm] at this
  rw [List.range_eq_range']
  exact this
 | true =>
  refine wp_region_any hm ?_
  have hf : flags (Array.replicate ops.size false) = fun _ => false := by
   funext i
   by_cases h : i < ops.size <;> simp [flags, h]
  have H := Held.start (ops := ops) (l := lv ((fun _ => undef : Nat → Value) j)) (S _) T0 (w := { W with drawn := W.drawn + 1 }) ⟨rfl, rfl, rfl, ze5 _, fun _ _ => rfl⟩ rfl
  have := yoc hdep' S T0 hop fin' ops.size (Array.replicate ops.size false) (fun _ => undef) B0 { W with drawn := W.drawn + 1 } (by simp) (by simp only [leftOver]; exact ze6 List.countP_le_length (by simp)) (by rw [hf]; exact H)
  rw [hf, ygm] at this
  exact this
end
end Go.Proofs.YtbkobojhkhiohaaGreat

namespace Go.Proofs.YtbkobojhkhiohaaGreat
open Go Go.RowKit Nt
set_option maxRecDepth 20000
set_option maxHeartbeats 16000000
theorem yvj {w : World} {lo e size n : Nat} {v : Value} {xs ys : List Value} (h : w.ownsRow lo e size v n xs) (h' : w.ownsRow lo e size v n ys) : xs = ys := by
 obtain ⟨l1, h1⟩ := h
 obtain ⟨l2, h2⟩ := h'
 rcases h1 with ⟨rfl, hn⟩ | ⟨g, cap, cur, rfl, _, hg, _, _, _, ht⟩
 ·subst hn
  rw [ziz] at l1 l2
  rw [zfw.1 l1, zfw.1 l2]
 ·rcases h2 with ⟨e2, _⟩ | ⟨g2, cap2, cur2, e2, _, hg2, _, _, _, ht2⟩
  ·cases e2
  ·simp only [Value.slice.injEq, Option.some.injEq, Addr.mk.injEq] at e2
   obtain ⟨⟨rfl, _⟩, _, rfl⟩ := e2
   rw [hg] at hg2
   simp at hg2
   subst hg2
   rw [← ht, ← ht2]
def RW (lo : Nat) (hv : Value) (e size n : Nat) (φs : List Pr) : Rk :=
 .own (fun b => vblock hv = some b) e (fun C w => ∃ xs, (∀ w1 : World, (∀ b, vblock hv = some b → w1.heap[b]? = some (.cells (C b).toArray e (0, 0))) → w1.ownsRow lo e size hv n xs) ∧ CE size φs xs w)
theorem zcx {lo e size n : Nat} {hv v : Value} {xs : List Value} {φs : List Pr} {B : Nat → Prop} {w : World} (h : w.ownsRow lo e size hv n xs) (hB : ∀ b, vblock hv = some b → B b) (hχ : ∀ w', Ev B w w' → CE size φs xs w') : (RW lo hv e size n φs).at lo B w v := by
 obtain ⟨h0, h1⟩ := h
 rcases h1 with ⟨rfl, hn⟩ | ⟨g, cap, cur, rfl, h2, h3, h4⟩
 ·exact ⟨fun _ => [], fun b hb => (by cases hb), fun w' ev => ⟨xs, fun w1 _ => ⟨h0, Or.inl ⟨rfl, hn⟩⟩, hχ w' ev⟩⟩
 ·refine ⟨fun _ => cur.toList, fun b hb => ⟨hB b hb, ?_⟩, fun w' ev => ⟨xs, fun w1 hc => ⟨h0, Or.inr ⟨g, cap, cur, rfl, h2, ?_, h4⟩⟩, hχ w' ev⟩⟩
  ·obtain rfl : g = b := by simpa [vblock] using hb
   simpa using h3
  ·simpa using hc g rfl
theorem ytp {lo e size n : Nat} {hv v : Value} {φs : List Pr} {B : Nat → Prop} {w : World} (h : (RW lo hv e size n φs).at lo B w v) : ∃ xs, w.ownsRow lo e size hv n xs ∧ (∀ b, vblock hv = some b → B b) ∧ ∀ w', Ev B w w' → CE size φs xs w' := by
 obtain ⟨C, h1, h2⟩ := h
 obtain ⟨xs, h3, _⟩ := h2 w (Ev.refl _ _)
 have ho := h3 w (fun b hb => (h1 b hb).2)
 refine ⟨xs, ho, fun b hb => (h1 b hb).1, fun w' ev => ?_⟩
 obtain ⟨ys, h4, h5⟩ := h2 w' ev
 rw [yvj ho (h4 w (fun b hb => (h1 b hb).2))]
 exact h5
theorem Sta.tellW {w0 W : World} {n : Nat} {bx bx' : Bxs} {sl : List (Tmp × Pr)} {B : Nat → Prop} {a : Act} (S : Sta w0 n bx sl B a W) (k G : Nat) {t e size n' : Nat} {φs : List Pr} (h : bx[k]? = some (t, .row e size n' (CE size φs))) (hs : ∀ x ∈ bx', x ∈ bx ∧ x.1 ≠ t) (hG : ∀ x ∈ bx', x.1 ≠ G) :
  ∃ p c, a.eval (.tmp t) = .slice p n' c ∧ Sta w0 n ((G, RW w0.heap.size (.slice p n' c) e size n' φs) :: bx') ((t, Is (.slice p n' c)) :: sl) B a W := by
 have hm := zfc h
 obtain ⟨xs, hown, hB, hχ⟩ := S.box _ hm
 have hv : ∃ p c, a.eval (.tmp t) = .slice p n' c := by
  rcases hown.2 with ⟨e1, e2⟩ | ⟨g, cap, cur, e1, _⟩
  ·exact ⟨none, 0, by rw [e2]; exact e1⟩
  ·exact ⟨_, _, e1⟩
 obtain ⟨p, c, ev⟩ := hv
 rw [ev] at hown hB
 have hset : ∀ b, (RW w0.heap.size (.slice p n' c) e size n' φs).set (a.eval (.tmp G)) b → (Rk.row e size n' (CE size φs)).set (a.eval (.tmp t)) b := fun b hb => by show vblock (a.eval (.tmp t)) = some b; rw [ev]; exact hb
 refine ⟨p, c, ev, S.ent, S.bnd, S.siz, S.dfr, fun x hx => ?_, fun x hx y hy b hbx hby => ?_, fun x hx => ?_⟩
 ·rcases zgy.1 hx with rfl | hx
  ·exact zcx hown hB hχ
  ·exact S.box x (hs x hx).1
 ·rcases zgy.1 hx with rfl | hx <;> rcases zgy.1 hy with rfl | hy
  ·rfl
  ·exact absurd (S.sep _ hm y (hs y hy).1 b (hset b hbx) hby).symm (hs y hy).2
  ·exact absurd (S.sep x (hs x hx).1 _ hm b hbx (hset b hby)) (hs x hx).2
  ·exact S.sep x (hs x hx).1 y (hs y hy).1 b hbx hby
 ·rcases zgy.1 hx with rfl | hx
  ·exact fun w' _ => ev
  ·exact S.slt x hx
section
variable {ops : Array Oper} {l : List Kd} {bx : Bxs} {sl : List (Tmp × Pr)} {i : Nat} {o : Oper} {Q : Exit → Act → World → Prop} {a0 : Act} {n0 : Nat} {w0 : World}
end
theorem yc8 : Idx 26 4 := fun ρ o x y w b k i n c hi hx hy => by
 unfold execOp
 go_simp
theorem ydi : Ldr 31 4 := yma (by decide) yaj
theorem yhu : Bld 26 31 4 := fun ρ o x w u hu hx => by
 have e := hu.of
 rw [ofCells, if_neg (by decide)] at e
 obtain ⟨l, hl⟩ : ∃ l, u.cells = ⟨l⟩ := ⟨u.cells.toList, by simp⟩
 have hs := hu.siz
 have ho := hu.one
 rw [hl] at e hs ho ⊢
 match l, hs with
 | [y, z, y', z'], _ =>
  clear hu hl
  subst e
  simp at ho
  obtain ⟨h1, h2, h3, h4⟩ := ho
  unfold execOp
  go_simp
theorem infoRat : (Tryz.prog.info? 31).map (fun i => (i.zero, i.size, i.bytes)) = some (some (.agg #[.bool false, .slice none 0 0, .bool false, .slice none 0 0]), 4, 64) := by kernel_rfl
theorem yrq : EInf 31 4 64 := by
 obtain ⟨i0, hi, hz0, hz1, hz2⟩ := info_parts infoRat
 exact ⟨⟨i0, _, hi, hz0, hz1, hz2, rfl⟩, by decide⟩
theorem Sta.tellNilW {w0 W : World} {n : Nat} {bx : Bxs} {sl : List (Tmp × Pr)} {B : Nat → Prop} {a : Act} (S : Sta w0 n bx sl B a W) (G e size : Nat)  : Sta w0 n ((G, RW w0.heap.size (.slice none 0 0) e size 0 []) :: bx) sl B a W := by
 refine ⟨S.ent, S.bnd, S.siz, S.dfr, fun x hx => ?_, fun x hx y hy b hbx hby => ?_, S.slt⟩
 ·rcases zgy.1 hx with rfl | hx
  ·exact zcx (World.ownsRow_nil _ _ _ _) (fun b hb => by cases hb) (fun w' _ => yoo w')
  ·exact S.box x hx
 ·rcases zgy.1 hx with rfl | hx <;> rcases zgy.1 hy with rfl | hy
  ·rfl
  ·cases hbx
  ·cases hby
  ·exact S.sep x hx y hy b hbx hby
section
variable {ops : Array Oper} {l : List Kd} {bx : Bxs} {sl : List (Tmp × Pr)} {i : Nat} {o : Oper} {Q : Exit → Act → World → Prop} {a0 : Act} {n0 : Nat} {w0 : World}
theorem ynt {x y : Operand} {T t k e size bytes n m : Nat} {hv : Value} {φs : List Pr} {χ2 χ3 : List Value → World → Prop} (ho : ops[i]? = some o) (hw : Wants ops l bx sl i o) (hop : o.op = .call { callee := .builtin .append, args := #[x, y], argTypes := #[T, T] })
  (hx : Opnd ops l bx sl i x (Is hv)) (hb : bx[k]? = some (t, RW w0.heap.size hv e size n φs)) (hn : unturned ops l i (.inl t) = true) (hy : Opnd ops l bx sl i y (Src e size m χ2)) (hE : EInf e size bytes) (hT : Tryz.prog.underlying T = some (.slice e)) (hm : 0 < m * size)
  (hl : n + m ≤ maxLen ∧ (n + m) * bytes ≤ 140737488355328) (hk : kdAt l i = .mov t (.row e size (n + m) χ3)) (h3 : ∀ xs ys w, CE size φs xs w → χ2 ys w → χ3 (xs ++ ys) w) : Owed Tryz.prog ops Q l bx sl a0 n0 w0 i := fun vs B a w c o' ho' => by
 obtain rfl : o = o' := Option.some.inj (ho.symm.trans ho')
 have hxv : a.eval x = hv := (hx a0 n0 w0 vs B a w c).now
 have hmem := zfc hb
 obtain ⟨xs, hown, hB, hχ⟩ := ytp (c.box t _ hmem hn)
 obtain ⟨g, c', ys, e1, e2, e3, e4, hχ2⟩ := yn9 hm (hy a0 n0 w0 vs B a w c)
 have hnews : ∀ j u, ys[j]? = some u → w.cell? ((⟨g, 0, none⟩ : Addr).add j) = some u := fun j u hu => by
  rw [yb8]
  simp only [World.cell?, e3, zf7]
  simpa using hu
 have hlo : w0.heap.size ≤ w.heap.size := c.lo
 obtain ⟨⟨i0, z, hi, hz, hsz, hby, hzs⟩, hpos⟩ := id hE
 obtain ⟨v', w', hr, o1, o2, _⟩ := run_append_own (P := Tryz.prog) w w0.heap.size T o.type e i0 z size bytes hT hi hz hsz hby hzs hpos _ n xs hown ⟨g, 0, none⟩ m c' ys e2.1 hnews e4 hl.1 hl.2 hlo
 have hwh := ye8 hE hT hown e2.1 hnews e4 hl.1 hl.2 hr o1
 have hvb : vblock hv = hv.ownBlock := yhb _ (fun ad ea => by
  rcases hown.2 with ⟨e', _⟩ | ⟨g', cap, cur, e', _⟩ <;> rw [e'] at ea <;> cases ea)
 have hc := yia o2 hvb
 simp only [wpOp, ho]
 rw [if_pos (hw a0 n0 w0 vs B a w c)]
 refine Or.inl ?_
 unfold Oper.wp
 have h : (execOp a.eval o).run Tryz.prog w = .ok (.value v') w' := by
  unfold execOp
  rw [hop]
  simp only [resolve, invoke, builtin, Sem.run_bind, Sem.run_pure, Result.andThen_ok, zik, zgz, zi0, hxv, e1, hr]
 rw [h, Oper.upon_value]
 refine ⟨v', rfl, ?_⟩
 rw [hk]
 have ev : Ev B w w' := ⟨hc.os, hc.tape, hc.output, hc.size, fun k hk' hn' => hc.block k hk' (fun hs => hn' (hB k hs))⟩
 have hid : ∀ b, vblock hv = some b → idset l bx a0 vs (.inl t) b := fun b hb' => ⟨_, hmem, hb'⟩
 have hsub : ∀ k, k < w.heap.size → (B k ∨ vblock v' = some k) → B k := fun k hk' h' => by
  rcases h' with h' | h'
  ·exact h'
  ·rcases hwh k h' with h' | h'
   ·exact hB k h'
   ·omega
 refine ⟨⟨hc.os, hc.tape, hc.output, hc.size, fun k hk' hn' => hc.block k hk' (fun hs => hn' (hid k hs))⟩, fun b hb' => (hwh b hb').imp (hid b) id, xs ++ ys, o1, fun b hb' => Or.inr hb', fun w'' ev'' => h3 _ _ _ (hχ w'' (ev.back hsub ev'')) (hχ2 w'' (ev.back hsub ev''))⟩
end
end Go.Proofs.YtbkobojhkhiohaaGreat
