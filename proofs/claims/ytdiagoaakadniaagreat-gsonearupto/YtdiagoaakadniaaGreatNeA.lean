import Derived.Test.YtdiagoaakadniaaGreatCoD
namespace Go.Proofs.YtdiagoaakadniaaGreat
open Go Go.RowKit Nt
set_option linter.unusedSimpArgs false
set_option linter.unusedVariables false
set_option maxRecDepth 20000
set_option maxHeartbeats 16000000
theorem of_reg (n K : Nat) (Bm : List (List Int)) (lB : Bm.length = n) (hn : n ≤ 1048576) (hK : K ≤ 1048576) (hK2 : 196 ≤ K) (hl : Ml Bm 1048576) (hdl : Mdl Bm K) :
  (∃ e : Int, e ≠ 0 ∧ OfGives n K Bm (TWO (IS (.agg #[.slice none 0 0, .slice none 0 0])) (IS (.int .i64 e)))) ∨ (OfOk Bm n ∧ Reg Bm (wd Bm) ∧ OfGives n K Bm (TWO (GN n (gwD Bm n) (gwL Bm n)) (IS (.int .i64 0)))) := by
 by_cases hb : mx (bitsM Bm) ≤ 256
 ·by_cases h12 : n ≤ 12
  ·by_cases hw : nar Bm
   ·by_cases h0 : n = 0
    ·exact Or.inl ⟨41, by decide, fun w u h => of_e w u n K Bm h hn hK hl hb _ (by decide) (fun w u h => yoe w u n K Bm h h0 lB hw)⟩
    ·by_cases hR : reg Bm = true
     ·have hreg := reg_y hR
      have hx : wd Bm ≤ 12 := by
       have e0 : Bm[0]? = some (Bm[0]'(by omega)) := List.getElem?_eq_getElem _
       have := hw 0 _ e0
       have := hreg 0 _ e0
       omega
      rcases yd7 (fun i => decide (gwd Bm i ≠ 0)) n with h | ⟨i0, hi0, h1, h2⟩
      ·have hd : ∀ i, i < n → gwd Bm i ≠ 0 := fun i hi => of_decide_eq_true (h i hi)
       exact Or.inr ⟨⟨by omega, h12, lB, hw, hb, hd⟩, hreg, fun w u h => of_ok w u n (wd Bm) K Bm h (by omega) h12 hx (by omega) hK lB hw hreg hb (wd_all h12 hK2 hb (yd9 hw) (fun k hk => hd k (by omega))) hd⟩
      ·have hd : ∀ i, i < i0 → gwd Bm i ≠ 0 := fun i hi => of_decide_eq_true (h2 i hi)
       have hz : gwd Bm i0 = 0 := by simpa using h1
       exact Or.inl ⟨50, by decide, fun w u h => of_dep w u n (wd Bm) K Bm h i0 hi0 (by omega) h12 hx (by omega) hK lB hw hreg hb (wd_all (by omega) hK2 hb (yd9 hw) (fun k hk => hd k (by omega))) hd hz⟩
     ·exact Or.inl ⟨8, by decide, fun w u h => of_e w u n K Bm h hn hK hl hb _ (by decide) (fun w u h => ymq w u n K Bm h h12 lB (by omega) hw hR)⟩
   ·have : ∃ i0, i0 < n ∧ 12 < (Bm.getD i0 []).length ∧ ∀ i, i < i0 → (Bm.getD i []).length ≤ 12 := by
     rcases yd7 (fun i => decide ((Bm.getD i []).length ≤ 12)) n with h | ⟨i0, hi0, h1, h2⟩
     ·exact absurd (fun i r hr => by
       have hi := (List.getElem?_eq_some_iff.1 hr).1
       have := of_decide_eq_true (h i (by omega))
       rw [List.getD_eq_getElem?_getD, hr] at this
       exact this) hw
     ·exact ⟨i0, hi0, by have := of_decide_eq_false h1; omega, fun i hi => of_decide_eq_true (h2 i hi)⟩
    obtain ⟨i0, hi0, h1, h2⟩ := this
    exact Or.inl ⟨40, by decide, fun w u h => of_e w u n K Bm h hn hK hl hb _ (by decide) (fun w u h => yof w u n K Bm h h12 lB i0 hi0 h1 h2 hl)⟩
  ·exact Or.inl ⟨40, by decide, fun w u h => of_e w u n K Bm h hn hK hl hb _ (by decide) (fun w u h => yod w u n K Bm h (by omega) lB hn)⟩
 ·exact Or.inl ⟨40, by decide, fun w u h => of_big w u n K Bm h hn hK hl (by omega) (by have := bits_top hdl; omega)⟩
section
variable {n m Kb K : Nat} {Bm : List (List Int)} {ts : List (Int × Int)}
theorem co_fineP (lt : ts.length = m) (hm : m ≤ 1048576) (hK : K ≤ 1048576) (hKb : Kb ≤ 1048576) (hdl : Mdl Bm Kb) (hok : OfOk Bm n) (hrow : ∀ j, j < n → (Bm.getD j []).length = m) (ok : DenOk ts) (hS : dsum ts m ≤ 1048577) (hT : ∀ k, k < m → (digs (ts.getD k (0, 0)).1.natAbs).length + dsum ts m ≤ 1048577)
  (hof : OfGives n Kb Bm (TWO (GN n (gwD Bm n) (gwL Bm n)) (IS (.int .i64 0)))) :
  ∃ x : Nat → Int, (∀ r, r < n → Dt.sm (fun c => x c * coG Bm ts m r c) n = Dt.det n (coG Bm ts m) * coG Bm ts m r n) ∧ (∀ r, Dt.bo (coG Bm ts m) n r n = Dt.det n (coG Bm ts m) * coG Bm ts m r n - Dt.sm (fun c => x c * coG Bm ts m r c) n) ∧ (∀ k, k ≤ n → 0 < Dt.det k (coG Bm ts m)) ∧ (digs (dt (coG Bm ts m) n)).length ≤ 196 ∧ (∀ i, i < n → (digs (x i).natAbs).length ≤ 2110000) ∧ (digs (Dt.bo (coG Bm ts m) n n n).natAbs).length ≤ 4200000 ∧
   CoG n m Kb K Bm ts (CoP n ((List.range n).map x) (dt (coG Bm ts m) n * cmN ts m) (Dt.bo (coG Bm ts m) n n n) (dt (coG Bm ts m) n * cmN ts m * cmN ts m)) := by
 have h12 := hok.top
 have hpos := hok.pos
 have lB := hok.len
 have hm12 : m ≤ 12 := by
  have h1 := hrow 0 hpos
  have h2 := yd9 hok.nar 0
  omega
 have hcl := yjy ok m (by omega)
 have dlT := tl_dl lt ok hT
 show ∃ x : Nat → Int, _
 unfold coG
 obtain ⟨T, hTe⟩ : ∃ T, T = tlL ts (cmN ts m) := ⟨_, rfl⟩
 have lT : T.length = m := by rw [hTe, tl_len, lt]
 rw [← hTe] at dlT ⊢
 obtain ⟨G, hG⟩ : ∃ G, G = gr (bxT Bm T) := ⟨_, rfl⟩
 rw [← hG]
 have bxn : (bxT Bm T).getD n [] = T := bx_at lB
 have hs : ∀ i j, G i j = G j i := fun i j => by rw [hG]; exact yiq _ i j
 have hdet : ∀ k, k ≤ n → Dt.det k G = Dt.det k (gr Bm) := fun k hk => by rw [hG]; exact detx (by omega)
 have hbo : ∀ k i j, k < n → i < n → j < n → Dt.bo G k i j = Dt.bo (gr Bm) k i j := fun k i j h1 h2 h3 => by rw [hG]; exact box (by omega) (by omega) (by omega)
 have hp0 := (ypl (yd9 hok.nar) (i := n) hok.ne).1
 have hp : ∀ k, k ≤ n → 0 < Dt.det k G := fun k hk => by rw [hdet k hk]; exact hp0 k hk
 have hL : Dt.Lead G n := yk4 hp (Nat.le_refl _)
 have hgw := (yk3 (ygc (i := n) (fun k hk => hok.ne k hk))).1
 have hD : ∀ k, k ≤ n → (gwD Bm n).getD k 0 = Dt.det k G := fun k hk => by rw [hgw.d k hk, hdet k hk]
 have hLl : ∀ j, j < n → ∀ k, k < j → ((gwL Bm n).getD j []).getD k 0 = Dt.bo G k j k := fun j hj k hk => by rw [hgw.l j hj k hk, hbo k j k (by omega) hj (by omega)]
 have hlf0 : ∀ j, j ≤ n → ∀ k, k < j → (lfL (gwD Bm n) (gwL Bm n) Bm T j).getD k 0 = Dt.bo G k n k := fun j hj k hk => by
  have q := yk5 (Bm := bxT Bm T) (i := n) (D := gwD Bm n) (L := gwL Bm n) ⟨fun m' hm' => by rw [hD m' hm', hG], fun j' hj' k' hk' => by rw [hLl j' hj' k' hk', hG]⟩ (by rw [← hG]; exact hL) j hj k hk
  rw [bxn, ← hG, ymw j (fun j' hj' => bx_lo (by omega))] at q
  exact q
 obtain ⟨dD, _, _⟩ := gl_ok hok
 have hB1 : ∀ k i j, k < n → i < n → j < n → (digs (Dt.bo G k i j).natAbs).length ≤ 196 := fun k i j h1 h2 h3 => by rw [hbo k i j h1 h2 h3]; exact bo_len hok.bits (yd9 hok.nar) (by omega) i j
 have hDz : ∀ k, k ≤ n → (digs (Dt.det k G).natAbs).length ≤ 196 := fun k hk => by rw [← hD k hk]; exact ydc dD k
 have hD1 : ∀ k, k ≤ n → (digs (dt G k)).length ≤ 196 := fun k hk => by
  have q := hDz k hk
  rw [← yfh hp hk, Int.natAbs_natCast] at q
  exact q
 have hGn : ∀ j, j < n → G n j = dotR T (Bm.getD j []) := fun j hj => by
  rw [hG]
  show dotR ((bxT Bm T).getD n []) ((bxT Bm T).getD j []) = _
  rw [bxn, bx_lo (by omega)]
 have hGt : G n n = dotR T T := by
  rw [hG]
  show dotR ((bxT Bm T).getD n []) ((bxT Bm T).getD n []) = _
  rw [bxn]
 have hal : ∀ i, i < n → Dt.sm (fun c => T.getD c 0 * (Bm.getD i []).getD c 0) m = G n i := fun i hi => by rw [hGn i hi, ymj _ _ m (by omega)]
 have hsq : Dt.sm (fun c => T.getD c 0 * T.getD c 0) m = G n n := by rw [hGt, ymj _ _ m (by omega)]
 have hrd : ∀ i, i < n → ∀ c, (digs ((Bm.getD i []).getD c 0).natAbs).length ≤ Kb := fun i hi c => ydc (hdl i _ (gD (d := []) (by omega))) c
 have hala : ∀ i k, i < n → k ≤ m → (digs (Dt.sm (fun c => T.getD c 0 * (Bm.getD i []).getD c 0) k).natAbs).length ≤ 2097165 := fun i k hi hk => Nat.le_trans (ynu (K := 1048577 + Kb) (fun c _ => ybx (ydc dlT c) (hrd i hi c))) (by omega)
 have hsqa : ∀ k, k ≤ m → (digs (Dt.sm (fun c => T.getD c 0 * T.getD c 0) k).natAbs).length ≤ 4194330 := fun k hk => Nat.le_trans (ynu (K := 1048577 + 1048577) (fun c _ => ybx (ydc dlT c) (ydc dlT c))) (by omega)
 have hE0 : ∀ j, j < n → (digs (G n j).natAbs).length ≤ 2097165 := fun j hj => by rw [← hal j hj]; exact hala j m hj (Nat.le_refl _)
 have hFt : (digs (G n n).natAbs).length ≤ 4194330 := by rw [← hsq]; exact hsqa m (Nat.le_refl _)
 have hE1 : ∀ k, k ≤ n → ∀ j, j < n → (digs (Dt.bo G k n j).natAbs).length ≤ 2099565 := fun k hk j hj => Nat.le_trans (ykt hs hp hB1 hDz hE0 k hk j hj) (by omega)
 have hF1 : ∀ k, k ≤ n → (digs (Dt.bo G k n n).natAbs).length ≤ 4199130 := fun k hk => Nat.le_trans (yo7 hs hp hB1 hDz hE0 hFt (by omega) k hk) (by omega)
 obtain ⟨x, hx1, hx2⟩ := cram2 hL n
 have hback : ∀ i, i < n → Dt.det n G * Dt.bo G i n i - Dt.sm (fun s => x (i + 1 + s) * Dt.bo G i (i + 1 + s) i) (n - 1 - i) = Dt.det (i + 1) G * x i := fun i hi => Dt.cram_back hs hL hx1 hi
 have hxl : ∀ i, i < n → (digs (x i).natAbs).length ≤ 2110000 := fun i hi => by
  have q := x_len hp hB1 hDz hE1 h12 hback (n - 1 - i) (by omega) (n - 1 - i) (Nat.le_refl _)
  rw [show n - 1 - (n - 1 - i) = i by omega] at q
  exact Nat.le_trans q (by omega)
 have lX : ((List.range n).map x).length = n := by simp
 have dX : Dl ((List.range n).map x) 4200000 := fun i z hz => by
  have hi : i < n := by
   have := (List.getElem?_eq_some_iff.1 hz).1
   rw [lX] at this
   exact this
  rw [List.getElem?_map, List.getElem?_range hi] at hz
  obtain rfl := Option.some.inj hz
  exact Nat.le_trans (hxl i hi) (by omega)
 have hdtn := yfh hp (Nat.le_refl n)
 have hlfo : LfOk (gwD Bm n) (gwL Bm n) Bm T n 4200000 := ⟨fun j hj => by
  rw [← hGn j hj]
  exact tk_ok (X := 0) hs (yk4 hp (by omega)) (fun k hk => hD k (by omega)) (hlf0 j (by omega)) (hLl j hj) (fun k hk => Nat.le_trans (hE1 k (by omega) j hj) (by omega)), by
  rw [← hGt]
  exact tk_ok (X := 0) hs hL hD (hlf0 n (Nat.le_refl _)) (hlf0 n (Nat.le_refl _)) (fun k hk => Nat.le_trans (hF1 k hk) (by omega))⟩
 have hDD : tk (gwD Bm n) (lfL (gwD Bm n) (gwL Bm n) Bm T n) (lfL (gwD Bm n) (gwL Bm n) Bm T n) (dotR T T) n = Dt.bo G n n n := by
  rw [← hGt]
  exact tk_bo hs hL hD (hlf0 n (Nat.le_refl _)) (hlf0 n (Nat.le_refl _)) n (Nat.le_refl _)
 refine ⟨x, hx1, hx2, hp, hD1 n (Nat.le_refl _), hxl, Nat.le_trans (hF1 n (Nat.le_refl _)) (by omega), fun w u v h hv => ?_⟩
 ·have q := co_w w u v n m Kb K Bm ts h hv hm hK lt m lB (hrow 0 hpos) hm12 rfl hok hrow ok (by omega) 4200000 (by omega) (by omega) (by omega) (hTe ▸ fun i z hz => Nat.le_trans (dlT i z hz) (by omega)) (hTe ▸ hlfo) (dt G n) (by rw [hD n (Nat.le_refl _), hdtn]) (ydk hp (Nat.le_refl _)) (hD1 n (Nat.le_refl _)) _ lX dX (fun i hi => by
   rw [← hTe, hD n (Nat.le_refl _), hD (i + 1) (by omega), hlf0 n (Nat.le_refl _) i hi, yfq hi, bhL_sm, ← hback i hi]
   congr 1
   exact Dt.sm_congr (fun t ht => by rw [yfq (by omega), hLl _ (by omega) i (by omega)])) hof
  rw [← hTe] at q
  exact Gives.cast q (by rw [hDD])
theorem co_allP (lB : Bm.length = n) (lt : ts.length = m) (hn : n ≤ 1048576) (hm : m ≤ 1048576) (hK : K ≤ 1048576) (hKb : Kb ≤ 1048576) (h196 : 196 ≤ Kb) (hl : Ml Bm 1048576) (hdl : Mdl Bm Kb) (hS : dsum ts m ≤ 1048577) (hT : ∀ k, k < m → (digs (ts.getD k (0, 0)).1.natAbs).length + dsum ts m ≤ 1048577) :
  (∃ e : Int, e ≠ 0 ∧ CoG n m Kb K Bm ts (CoE e)) ∨ (OfOk Bm n ∧ (∀ j, j < n → (Bm.getD j []).length = m) ∧ DenOk ts ∧ ∃ x : Nat → Int, (∀ r, r < n → Dt.sm (fun c => x c * coG Bm ts m r c) n = Dt.det n (coG Bm ts m) * coG Bm ts m r n) ∧ (∀ r, Dt.bo (coG Bm ts m) n r n = Dt.det n (coG Bm ts m) * coG Bm ts m r n - Dt.sm (fun c => x c * coG Bm ts m r c) n) ∧ (∀ k, k ≤ n → 0 < Dt.det k (coG Bm ts m)) ∧ (digs (dt (coG Bm ts m) n)).length ≤ 196 ∧ (∀ i, i < n → (digs (x i).natAbs).length ≤ 2110000) ∧ (digs (Dt.bo (coG Bm ts m) n n n).natAbs).length ≤ 4200000 ∧
   CoG n m Kb K Bm ts (CoP n ((List.range n).map x) (dt (coG Bm ts m) n * cmN ts m) (Dt.bo (coG Bm ts m) n n n) (dt (coG Bm ts m) n * cmN ts m * cmN ts m))) := by
 rcases of_reg n Kb Bm lB hn hKb h196 hl hdl with ⟨e, he, hof⟩ | ⟨hok, hreg, hof⟩
 ·exact Or.inl ⟨e, he, fun w u v h hv => co_e w u v n m Kb K Bm ts h hv hn hm hK lt e he hof⟩
 ·have h12 := hok.top
  have hpos := hok.pos
  have hrow : ∀ j, j < n → (Bm.getD j []).length = wd Bm := fun j hj => by
   rw [List.getD_eq_getElem?_getD, List.getElem?_eq_getElem (show j < Bm.length by omega)]
   exact hreg j _ (List.getElem?_eq_getElem _)
  have hw12 : wd Bm ≤ 12 := by
   have h1 := hrow 0 hpos
   have h2 := yd9 hok.nar 0
   omega
  by_cases hne : m = wd Bm
  ·rcases yd7 (fun k => decide (0 < (ts.getD k (0, 0)).2)) m with hd | ⟨i0, hi0, h1, h2⟩
   ·have ok : DenOk ts := fun k hk => of_decide_eq_true (hd k (by omega))
    have hrow' : ∀ j, j < n → (Bm.getD j []).length = m := fun j hj => by rw [hrow j hj, hne]
    exact Or.inr ⟨hok, hrow', ok, co_fineP lt hm hK hKb hdl hok hrow' ok hS hT hof⟩
   ·have hz := of_decide_eq_false h1
    exact Or.inl ⟨30, by decide, fun w u v h hv => co_r w u v n m Kb K Bm ts h hv hn hm hK lt (wd Bm) lB hpos (hrow 0 hpos) hw12 hne i0 hi0 (fun i hi => of_decide_eq_true (h2 i hi)) (by omega) hof⟩
  ·exact Or.inl ⟨8, by decide, fun w u v h hv => co_s w u v n m Kb K Bm ts h hv hn hm hK lt (wd Bm) lB hpos (hrow 0 hpos) hw12 hne hof⟩
end
def nrL (f : Nat → Int) (Q : Nat) : Nat → List (Int × Nat)
 | 0 => []
 | k + 1 => nrL f Q k ++ [(f k, Q)]
theorem nrL_len (f : Nat → Int) (Q : Nat) : ∀ k, (nrL f Q k).length = k
 | 0 => rfl
 | k + 1 => by simp [nrL, nrL_len f Q k]
theorem nr_get {f : Nat → Int} {Q : Nat} : ∀ {m k : Nat}, k < m → (nrL f Q m)[k]? = some (f k, Q)
 | m + 1, k, h => by
  have hl := nrL_len f Q m
  rw [nrL]
  rcases Nat.lt_or_ge k m with h1 | h1
  ·rw [List.getElem?_append_left (by omega)]
   exact nr_get h1
  ·have e : k = m := by omega
   subst e
   exact yh8 hl
def nrR (num den : Int) (K : Nat) (P : Int) (D i lo : Nat) : Pr := fun v w => (i = 0 → PR (Zv num K) (Zv den K) v w) ∧ (0 < i → QQ P D lo v w)
theorem nr_0 {num den P : Int} {K D lo : Nat} : ∀ v w, PR (Zv num K) (Zv den K) v w → nrR num den K P D 0 lo v w := fun v w h => ⟨fun _ => h, fun h => by omega⟩
theorem nr_s {num den P : Int} {K D i lo : Nat} : ∀ v w, QQ P D lo v w → nrR num den K P D (i + 1) lo v w := fun v w h => ⟨fun h => by omega, fun _ => h⟩
theorem nr_e {num den P : Int} {K D i lo : Nat} (hi : 0 < i) : ∀ v w, nrR num den K P D i lo v w → QQ P D lo v w := fun v w h => h.2 hi
theorem nr_qw {num den P : Int} {K D i lo : Nat} (hd : 0 < den) (hK : K ≤ 8388608) (hD : D ≠ 0) (h0 : i = 0 → P * den = num * (D : Int)) (b1 : (digs P.natAbs).length ≤ 8388608) (b2 : (digs D).length ≤ 8388608) : ∀ v w, nrR num den K P D i lo v w → QW P D 8388608 v w := fun v w h => by
 rcases Nat.eq_zero_or_pos i with e | e
 ·have q := h0 e
  refine qw_eq (P := num) (Q := den.toNat) (by omega) ?_ v w (qw_mono hK v w (qw_raw hd v w (h.1 e)))
  rw [show ((den.toNat : Nat) : Int) = den by omega]
  exact q.symm
 ·exact qw_qq hD b1 b2 v w (h.2 e)
theorem shp_nr {num den P : Int} {K D i lo : Nat} : Shp 4 (nrR num den K P D i lo) := fun u w h => by
 rcases Nat.eq_zero_or_pos i with e | e
 ·exact ych ybc ybc u w (h.1 e)
 ·exact ya6 u w (h.2 e)
theorem nr_step {P x b : Int} {D : Nat} (hD : D ≠ 0) : QQ (P * ((D * 1 : Nat) : Int) + (-(x * b)) * ((D : Nat) : Int)) (D * (D * 1)) = QQ (P - x * b) D := by
 rw [Nat.mul_one]
 refine yff (Nat.mul_ne_zero hD hD) hD ?_
 simp only [Int.natCast_mul]
 generalize (D : Int) = d at *
 grind
theorem nr_sign {D : Nat} (hD : D ≠ 0) : (nR 0 D).sign = 0 := by
 rw [qq_sign hD]
 rfl
section
variable {Bm : List (List Int)} {T : List Int} {x : Nat → Int} {d : Int} {n m : Nat}
def nrP (Bm : List (List Int)) (T : List Int) (x : Nat → Int) (d : Int) (k i : Nat) : Int := d * T.getD k 0 - Dt.sm (fun c => x c * (Bm.getD c []).getD k 0) i
theorem nrP_step (k i : Nat) : nrP Bm T x d k (i + 1) = nrP Bm T x d k i - x i * (Bm.getD i []).getD k 0 := by
 unfold nrP
 rw [Dt.sm]
 omega
theorem nrP_dot (R : List Int) : Dt.sm (fun k => nrP Bm T x d k n * R.getD k 0) m = d * Dt.sm (fun k => T.getD k 0 * R.getD k 0) m - Dt.sm (fun c => x c * Dt.sm (fun k => (Bm.getD c []).getD k 0 * R.getD k 0) m) n := by
 have e1 : Dt.sm (fun k => nrP Bm T x d k n * R.getD k 0) m = Dt.sm (fun k => d * (T.getD k 0 * R.getD k 0) + (-1) * Dt.sm (fun c => x c * ((Bm.getD c []).getD k 0 * R.getD k 0)) n) m := Dt.sm_congr (fun k _ => by
  unfold nrP
  have e2 : Dt.sm (fun c => x c * ((Bm.getD c []).getD k 0 * R.getD k 0)) n = Dt.sm (fun c => x c * (Bm.getD c []).getD k 0) n * R.getD k 0 := by
   rw [← Dt.sm_left]
   exact Dt.sm_congr (fun c _ => by rw [Int.mul_assoc])
  rw [e2]
  grind)
 have e3 : Dt.sm (fun k => Dt.sm (fun c => x c * ((Bm.getD c []).getD k 0 * R.getD k 0)) n) m = Dt.sm (fun c => x c * Dt.sm (fun k => (Bm.getD c []).getD k 0 * R.getD k 0) m) n := by
  rw [Dt.sm_comm (fun k c => x c * ((Bm.getD c []).getD k 0 * R.getD k 0)) n m]
  exact Dt.sm_congr (fun c _ => by rw [Dt.sm_mul])
 rw [e1, Dt.sm_add, Dt.sm_mul, Dt.sm_mul, e3]
 omega
theorem nrP_sq {R : List Int} (hR : ∀ k, k < m → R.getD k 0 = nrP Bm T x d k n) : Dt.sm (fun k => nrP Bm T x d k n * nrP Bm T x d k n) m = d * Dt.sm (fun k => T.getD k 0 * R.getD k 0) m - Dt.sm (fun c => x c * Dt.sm (fun k => (Bm.getD c []).getD k 0 * R.getD k 0) m) n := by
 rw [← nrP_dot R]
 exact Dt.sm_congr (fun k hk => by rw [hR k hk])
theorem near_facts {G : Nat → Nat → Int} (hG1 : ∀ i, i < n → Dt.sm (fun k => T.getD k 0 * (Bm.getD i []).getD k 0) m = G n i) (hG2 : ∀ c i, c < n → i < n → Dt.sm (fun k => (Bm.getD c []).getD k 0 * (Bm.getD i []).getD k 0) m = G c i) (hG3 : Dt.sm (fun k => T.getD k 0 * T.getD k 0) m = G n n) (hs : ∀ i j, G i j = G j i) (hd : d = Dt.det n G)
  (hx1 : ∀ r, r < n → Dt.sm (fun c => x c * G r c) n = Dt.det n G * G r n) (hx2 : ∀ r, Dt.bo G n r n = Dt.det n G * G r n - Dt.sm (fun c => x c * G r c) n) :
  (∀ i, i < n → Dt.sm (fun k => nrP Bm T x d k n * (Bm.getD i []).getD k 0) m = 0) ∧ Dt.sm (fun k => nrP Bm T x d k n * nrP Bm T x d k n) m = d * Dt.bo G n n n := by
 have h1 : ∀ i, i < n → Dt.sm (fun k => nrP Bm T x d k n * (Bm.getD i []).getD k 0) m = 0 := fun i hi => by
  rw [nrP_dot, hG1 i hi, Dt.sm_congr (g := fun c => x c * G i c) (fun c hc => by rw [hG2 c i hc hi, hs c i]), hx1 i hi, hd, hs n i]
  omega
 refine ⟨h1, ?_⟩
 have hR : ∀ k, k < m → ((List.range m).map (fun k => nrP Bm T x d k n)).getD k 0 = nrP Bm T x d k n := fun k hk => yfq hk
 have e1 : Dt.sm (fun k => T.getD k 0 * ((List.range m).map (fun k => nrP Bm T x d k n)).getD k 0) m = Dt.bo G n n n := by
  rw [Dt.sm_congr (g := fun k => nrP Bm T x d k n * T.getD k 0) (fun k hk => by rw [hR k hk, Int.mul_comm]), nrP_dot, hG3, hx2 n, hd]
  congr 1
  exact Dt.sm_congr (fun c hc => by rw [Dt.sm_congr (g := fun k => T.getD k 0 * (Bm.getD c []).getD k 0) (fun k _ => Int.mul_comm _ _), hG1 c hc])
 rw [nrP_sq hR, e1, Dt.sm_congr (g := fun _ => 0) (fun c hc => by rw [Dt.sm_congr (g := fun k => nrP Bm T x d k n * (Bm.getD c []).getD k 0) (fun k hk => by rw [hR k hk, Int.mul_comm]), h1 c hc, Int.mul_zero]), Dt.sm_zero]
 omega
end
end Go.Proofs.YtdiagoaakadniaaGreat
