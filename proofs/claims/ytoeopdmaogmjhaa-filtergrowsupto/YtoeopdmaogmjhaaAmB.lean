import Derived.Test.YtoeopdmaogmjhaaAmA
import Derived.Test.YtoeopdmaogmjhaaCoB
/-
 Package aim: Child of a spot.
-/
namespace Go.Proofs.Ytoeopdmaogmjhaa
open Go Go.RowKit Nt
set_option linter.unusedSimpArgs false
set_option linter.unusedVariables false
set_option maxRecDepth 20000


theorem at_pin {B : Nat → Prop} {w : World} {sz : Nat} {φ : Pr} {v : Value} (hz : 0 < sz) (hc : Cel sz φ) (h : Has B w (AtE sz φ) v) : ∃ u, Celv sz u ∧ Has B w φ u ∧ Has B w (AtE sz (PI u φ)) v := by
 obtain ⟨b, o, u, rfl, h1, h2, h3⟩ := id h.now
 obtain ⟨x0, hx0⟩ : ∃ x, u.cells[0]? = some x := ⟨u.cells[0]'(by omega), Array.getElem?_eq_getElem _⟩
 have hn : ¬ B b := not_turned (h1 0 x0 hx0) (fun w' e => by
  obtain ⟨b', o', u', e', h1', h2', h3'⟩ := h w' e
  cases e'
  obtain ⟨x', hx'⟩ : ∃ x, u'.cells[0]? = some x := ⟨u'.cells[0]'(by omega), Array.getElem?_eq_getElem _⟩
  rw [h1' 0 x' hx']; rfl)
 have key : ∀ w', Ev B w w' → (∀ (j : Nat) x, u.cells[j]? = some x → w'.cell? ⟨b, o + j, none⟩ = some x) ∧ φ u w' := fun w' e => by
  obtain ⟨b', o', u', e', h1', h2', h3'⟩ := h w' e
  cases e'
  have : u' = u := celv_inj (hc _ _ h3') (hc _ _ h3) (by
   apply Array.ext
   ·rw [h2, h2']
   ·intro i hi hi'
    have a1 := h1 i _ (Array.getElem?_eq_getElem hi')
    have a2 := h1' i _ (Array.getElem?_eq_getElem hi)
    have a3 := cell_ev' a1 hn e
    rw [a3] at a2
    exact (Option.some.inj a2).symm)
  rw [← this]
  exact ⟨h1', h3'⟩
 exact ⟨u, hc u w h3, fun w' e => (key w' e).2, fun w' e => ⟨b, o, u, rfl, (key w' e).1, h2, rfl, (key w' e).2⟩⟩
theorem ar_pin {B : Nat → Prop} {w : World} {sz n : Nat} {φs : List Pr} {v : Value} (hz : 0 < sz) (hc : ∀ (k : Nat) φ, φs[k]? = some φ → Cel sz φ) (h : Has B w (Ar sz n φs) v) : ∃ vs : List Value, vs.length = n ∧ (∀ (k : Nat) u φ, vs[k]? = some u → φs[k]? = some φ → Has B w φ u) ∧ Has B w (Ar sz n (Pl vs φs)) v := by
 obtain ⟨p, c, rfl, hl, hb, _⟩ := id h.now
 have key : ∀ k : Nat, ∃ u : Value, ∀ φ, φs[k]? = some φ → Has B w φ u ∧ ∃ b o, p = some ⟨b, o, none⟩ ∧ Has B w (AtE sz (PI u φ)) (.pointer (some ⟨b, o + sz * k, none⟩)) := fun k => by
  cases hk : φs[k]? with
  | none => exact ⟨undef, fun φ hφ => by cases hφ⟩
  | some φ =>
   obtain ⟨b, o, c', e1, _, hat⟩ := ar_at h hk
   cases e1
   obtain ⟨u, _, h2, h3⟩ := at_pin hz (hc k φ hk) hat
   exact ⟨u, fun φ' hφ' => by cases hφ'; exact ⟨h2, b, o, rfl, h3⟩⟩
 obtain ⟨f, hf⟩ := Classical.axiomOfChoice key
 have hget : ∀ k u, ((List.range n).map f)[k]? = some u → u = f k := fun k u hu => by
  rw [List.getElem?_map] at hu
  obtain ⟨k', h1, rfl⟩ := Option.map_eq_some_iff.1 hu
  have hlt := (List.getElem?_eq_some_iff.1 h1).1
  rw [List.length_range] at hlt
  rw [List.getElem?_range hlt] at h1
  cases h1
  rfl
 refine ⟨(List.range n).map f, by simp, fun k u φ hu hφ => by rw [hget k u hu]; exact (hf k φ hφ).1, fun w' e => ⟨p, c, rfl, by simp [Pl, hl], hb, fun i ψ hψ => ?_⟩⟩
 obtain ⟨u, φ, h1, h2, rfl⟩ := List.getElem?_zipWith_eq_some.1 hψ
 obtain ⟨_, b, o, e1, h3⟩ := hf i φ h2
 obtain ⟨b', o', u', e2, h4, h5, h6⟩ := h3 w' e
 cases e2
 refine ⟨b, o, u', e1, h4, h5, ?_⟩
 rw [hget i u h1]
 exact h6
abbrev Zl (sh : List Int) (lo : Nat) : List Pr := (sh.map ZN).map (· lo)
theorem zl_get {sh : List Int} {lo k : Nat} {φ : Pr} (h : (Zl sh lo)[k]? = some φ) : ∃ z, sh[k]? = some z ∧ φ = ZN z lo := by
 obtain ⟨ψ, h1, rfl⟩ := map_get h
 obtain ⟨z, h2, rfl⟩ := map_get h1
 exact ⟨z, h2, rfl⟩
theorem cel_plz {sh : List Int} {lo : Nat} {vs : List Value} : ∀ (k : Nat) φ, (Pl vs (Zl sh lo))[k]? = some φ → Cel 2 φ := fun k φ h => by
 obtain ⟨u, φ', h1, h2, rfl⟩ := List.getElem?_zipWith_eq_some.1 h
 obtain ⟨z, _, rfl⟩ := zl_get h2
 exact fun v w hv => cel_shp (by decide) shp_zn v w hv.2
theorem pl_vv {sh : List Int} {lo k Ks : Nat} {vs : List Value} (lv : vs.length = k) (ls : sh.length = k) (hd : Dl sh Ks) : ∀ v w, Ar 2 k (Pl vs (Zl sh lo)) v w → Vv k sh Ks v w := ar_imp (by simp [Pl, lv, ls]) (fun i φ φ' h1 h2 v w hv => by
 obtain ⟨u, φ'', _, h4, rfl⟩ := List.getElem?_zipWith_eq_some.1 h1
 obtain ⟨z, hz, rfl⟩ := zl_get h4
 obtain ⟨z', hz', rfl⟩ := map_get h2
 rw [hz] at hz'
 cases hz'
 exact zn_zv (hd i z hz) v w hv.2)
theorem piz_zv {vr : Value} {R : Int} {lo K : Nat} (h : (digs R.natAbs).length ≤ K) : ∀ v w, PI vr (ZN R lo) v w → Zv R K v w := fun v w hv => zn_zv h v w hv.2
theorem shp_piz {vr : Value} {R : Int} {lo : Nat} : Shp 2 (PI vr (ZN R lo)) := fun v w hv => shp_zn v w hv.2
theorem pl_app {vs : List Value} {φs : List Pr} {φ : Pr} {k i : Nat} {ψ : Pr} (lv : vs.length = k) (lf : φs.length = k) (h : (Pl vs φs ++ [φ])[i]? = some ψ) : (∃ u φ', vs[i]? = some u ∧ φs[i]? = some φ' ∧ i < k ∧ ψ = PI u φ') ∨ (i = k ∧ ψ = φ) := by
 have hl : (Pl vs φs).length = k := by simp [Pl, lv, lf]
 rcases Nat.lt_or_ge i k with hi | hi
 ·rw [List.getElem?_append_left (by omega)] at h
  obtain ⟨u, φ', h1, h2, rfl⟩ := List.getElem?_zipWith_eq_some.1 h
  exact Or.inl ⟨u, φ', h1, h2, hi, rfl⟩
 ·rw [List.getElem?_append_right (by omega), hl] at h
  obtain rfl : i = k := by
   have := (List.getElem?_eq_some_iff.1 h).1
   simp at this
   omega
  simp at h
  exact Or.inr ⟨rfl, h.symm⟩
theorem arn_vv {sh : List Int} {lo lo' k Ks : Nat} {vs : List Value} {Z : Int} (lv : vs.length = k) (ls : sh.length = k) (hd : Dl (sh ++ [Z]) Ks) : ∀ v w, ArN 2 (k + 1) (Pl vs (Zl sh lo) ++ [ZN Z lo']) lo' v w → Vv (k + 1) (sh ++ [Z]) Ks v w := fun v w h => ar_imp (by simp [Pl, lv, ls]) (fun i φ φ' h1 h2 v w hv => by
 obtain ⟨z', hz', rfl⟩ := map_get h2
 rcases pl_app (k := k) lv (by simp [ls]) h1 with ⟨u, φ'', _, h4, hi, rfl⟩ | ⟨rfl, rfl⟩
 ·obtain ⟨z, hz, rfl⟩ := zl_get h4
  rw [List.getElem?_append_left (by omega), hz] at hz'
  cases hz'
  exact zn_zv (hd i _ (by rw [List.getElem?_append_left (by omega)]; exact hz)) v w hv.2
 ·rw [List.getElem?_append_right (by omega), ls, Nat.sub_self] at hz'
  cases hz'
  exact zn_zv (hd i Z (by rw [List.getElem?_append_right (by omega), ls, Nat.sub_self]; rfl)) v w hv) v w h.1
theorem arn_lf {sh : List Int} {lo lo' k : Nat} {vs : List Value} {Z : Int} (lv : vs.length = k) (ls : sh.length = k) : ∀ v w, ArN 2 (k + 1) (Pl vs (Zl sh lo) ++ [ZN Z lo']) lo' v w → LF 2 (k + 1) (vs.map IS ++ [ZN Z]) lo' v w := fun v w h => ⟨ar_imp (by simp [Pl, lv, ls]) (fun i φ φ' h1 h2 v w hv => by
 obtain ⟨ψ, hψ, rfl⟩ := map_get h2
 rcases pl_app (k := k) lv (by simp [ls]) h1 with ⟨u, φ'', h3, h4, hi, rfl⟩ | ⟨rfl, rfl⟩
 ·rw [List.getElem?_append_left (by simp; omega)] at hψ
  obtain ⟨u', hu', rfl⟩ := map_get hψ
  rw [h3] at hu'
  cases hu'
  exact hv.1
 ·rw [List.getElem?_append_right (by simp; omega)] at hψ
  simp [lv] at hψ
  rw [← hψ]
  exact hv) v w h.1, h.2⟩
theorem fresh_plz {n : Nat} {vs : List Value} {Z : Int} : Fresh (LF 2 n (vs.map IS ++ [ZN Z])) := fresh_lf (by decide) (fun i ψ h => by
 have := List.mem_of_getElem? h
 rcases List.mem_append.1 this with h | h
 ·obtain ⟨u, _, rfl⟩ := List.mem_map.1 h
  exact fresh_is u
 ·simp at h
  rw [h]
  exact fresh_zn Z)
theorem dl_snoc {sh : List Int} {Z : Int} {K : Nat} (h : Dl sh K) (hz : (digs Z.natAbs).length ≤ K) : Dl (sh ++ [Z]) K := fun i z hi => by
 rcases List.mem_append.1 (List.mem_of_getElem? hi) with h1 | h1
 ·obtain ⟨j, hj⟩ := List.mem_iff_getElem?.1 h1
  exact h j z hj
 ·simp at h1
  rw [h1]
  exact hz

abbrev qxcv80  : Rk := .box 54 (Is (.agg #[.pointer none, .slice none 0 0, .bool false, .slice none 0 0, .bool false, .slice none 0 0, .bool false, .slice none 0 0]))
abbrev qxcv81 (pa : Value) (nD : Nat) (nL : Nat) (nT : Nat) (K : Nat) (D : List Int) (L : List (List Int)) (τ : List Int) (dn : Int) (k : Nat) (lo : Nat) (KB : Nat) (KN : Nat) (sh : List Int) (vs : List Value) (vr : Value) (b : Int) (N : Int) (R : Int) : Rk := .box 54 (SP (AP pa nD nL nT K D L τ dn) (Ar 2 k (Pl vs (Zl sh lo))) (Zv b KB) (Zv N KN) (PI vr (ZN R lo)))
abbrev qxcv82 (w : World) (pa : Value) (nL : Nat) (L : List (List Int)) (k : Nat) (sh : List Int) (vs : List Value) (vr : Value) (Z : Int) (N1 : Int) : Rk := .box 54 (SP (Is (pa)) ((LF 2 (k + 1) (vs.map IS ++ [ZN Z])) w.heap.size) ((ZN (fB (sh ++ [Z]) L nL (k + 1))) w.heap.size) ((ZN (N1)) w.heap.size) (Is (vr)))
abbrev qxcv83 (w : World) (pa : Value) (nD : Nat) (nL : Nat) (nT : Nat) (K : Nat) (D : List Int) (L : List (List Int)) (τ : List Int) (dn : Int) (k : Nat) (lo : Nat) (sh : List Int) (vs : List Value) (vr : Value) (R : Int) (Z : Int) (M : Int) : Rk := .box 54 (SP (AP pa nD nL nT K D L τ dn) (ArN 2 (k + 1) (Pl vs (Zl sh lo) ++ [((ZN (Z)) w.heap.size)]) w.heap.size) zI ((ZN (M)) w.heap.size) (PI vr (ZN R lo)))
abbrev qxcv84 (K : Nat) (D1 : Int) : Rk := .box 29 (Zv D1 K)
set_option maxHeartbeats 4000000 in
theorem chl_e (w : World) (pa : Value) (nD nL nT K : Nat) (D : List Int) (L : List (List Int)) (τ : List Int) (dn : Int) (hD : nD ≤ 1048577) (hL : nL ≤ 1048576) (hT : nT ≤ 1048576) (hK : K ≤ 16777216) (lD : D.length = nD) (lL : L.length = nL) (lT : τ.length = nT) (u x : Value) (k lo Ks KB KN Kx : Nat) (sh : List Int) (vs : List Value) (vr : Value) (b N R X Z D0 D1 W M N1 : Int) (h : Hs w (SP (AP pa nD nL nT K D L τ dn) (Ar 2 k (Pl vs (Zl sh lo))) (Zv b KB) (Zv N KN) (PI vr (ZN R lo))) u) (hx : Hs w (Zv X Kx) x) (hk : k < nL) (hnT : nT = nL) (hnD : nD = nL + 1) (ls : sh.length = k) (lv : vs.length = k) (hr : ∀ j, j < nL → (L.getD j []).length = j) (hd0 : D1 ≠ 0) (dsh : Dl sh Ks) (hKs : Ks ≤ 67108864) (hKB : KB ≤ 134217728) (hKN : KN ≤ 134217728) (hR : (digs R.natAbs).length ≤ 134217728) (hKx : Kx ≤ 16777216) (eZ : X * dn - τ.getD (nL - 1 - k) 0 = Z) (eD0 : D.getD (nL - 1 - k) 0 = D0) (eD1 : D.getD (nL - 1 - k + 1) 0 = D1) (eW : Z * D1 + b = W) (eM : N * D0 + R * (W * W) = M) (hm : rm M D1 = 0) (eN : fl M D1 = N1) :
  Calls Try.prog 35 #[u, x] w (Gives (SPN (IS (pa)) (LF 2 (k + 1) (vs.map IS ++ [ZN Z])) (ZN (fB (sh ++ [Z]) L nL (k + 1))) (ZN (N1)) (IS (vr))) w) := by
 obtain ⟨_, _, _, _, _, ha, _, hbv, hNv, _⟩ := sp_at h.now
 have hamd := ap_dl ha
 have hpb := zv_dlR hbv
 have hpN := zv_dlR hNv
 have hpx := zv_dlR hx.now
 have hp0 : (digs D0.natAbs).length ≤ K := by rw [← eD0]; exact dl_getD hamd.1 _
 have hp1 : (digs D1.natAbs).length ≤ K := by rw [← eD1]; exact dl_getD hamd.1 _
 have q0 : (digs (X * dn).natAbs).length ≤ 33554432 := by rw [Int.natAbs_mul]; exact Nat.le_trans (digs_mul_len hpx hamd.2.2.2) (by omega)
 have q1 : (digs Z.natAbs).length ≤ 33554433 := by rw [← eZ]; exact digs_sub_len q0 (Nat.le_trans (dl_getD hamd.2.2.1 _) (by omega))
 have q2 : (digs (Z * D1).natAbs).length ≤ 50331649 := by rw [Int.natAbs_mul]; exact Nat.le_trans (digs_mul_len q1 hp1) (by omega)
 have q3 : (digs W.natAbs).length ≤ 134217729 := by rw [← eW]; exact dl_add (Nat.le_trans q2 (by omega)) (Nat.le_trans hpb hKB)
 have q4 : (digs (W * W).natAbs).length ≤ 268435458 := by rw [Int.natAbs_mul]; exact Nat.le_trans (digs_mul_len q3 q3) (by omega)
 have q5 : (digs (R * (W * W)).natAbs).length ≤ 402653186 := by rw [Int.natAbs_mul]; exact Nat.le_trans (digs_mul_len hR q4) (by omega)
 have q6 : (digs (N * D0).natAbs).length ≤ 402653186 := by rw [Int.natAbs_mul]; exact Nat.le_trans (digs_mul_len hpN hp0) (by omega)
 have q7 : (digs M.natAbs).length ≤ 402653187 := by rw [← eM]; exact dl_add q6 q5
 have q8 : (digs (R * D1).natAbs).length ≤ 150994944 := by rw [Int.natAbs_mul]; exact Nat.le_trans (digs_mul_len hR hp1) (by omega)
 have d2 : Dl (sh ++ [Z]) 67108864 := dl_snoc (fun i z hz => Nat.le_trans (dsh i z hz) hKs) (Nat.le_trans q1 (by omega))
 have q9 : (digs N1.natAbs).length ≤ 402653188 := by rw [← eN]; exact fl_len hd0 q7
 refine calls_sta (sl := [(0, (SP (AP pa nD nL nT K D L τ dn) (Ar 2 k (Pl vs (Zl sh lo))) (Zv b KB) (Zv N KN) (PI vr (ZN R lo)))), (1, (Zv X Kx))]) Try.func35 rfl Try.ntmps35 (by simp) (args_cons rfl (h) (args_cons rfl (hx) args_nil)) ?_
 intro a0 S0
 refine wq [.new (qxcv81 pa nD nL nT K D L τ dn k lo KB KN sh vs vr b N R), .new (.box 29 (Zv X Kx)), .new (qxcv80)] [.inl 0, .inl 1, .inl 2] [] S0 ?_ ?_
 ·apply jj3
  ·exact owe_box rfl wA rfl (oS 0 0) rfl (fun ρ w h => box_spot shp_st ρ _ _ w h)
  ·exact owe_box rfl wA rfl (oS 1 1) rfl (fun ρ w h => box_int shp_zv ρ _ _ w h)
  ·exact owe_new rfl wA rfl rfl (fun ρ w => alloc_spot ρ _ w)
 intro _ a1 _ (S1 : Sta w 92 [(2, (qxcv81 pa nD nL nT K D L τ dn k lo KB KN sh vs vr b N R)), (3, (.box 29 (Zv X Kx))), (4, (qxcv80))] [] _ _ _)
 refine wq [.val (Part a1 2 0), .val (AP pa nD nL nT K D L τ dn), .val (SP (AP pa nD nL nT K D L τ dn) (Ar 2 k (Pl vs (Zl sh lo))) (Zv b KB) (Zv N KN) (PI vr (ZN R lo))), .val (iV ((nL - 1 - k : Nat) : Int)), .val (AP pa nD nL nT K D L τ dn), .val (iV ((nL - 1 - k : Nat) : Int))] [.inr 0, .inr 1, .inr 2] [.inl 4, .inl 5] S1 ?_ ?_
 ·apply jj6
  ·exact owe_part rfl wA rfl (k := 0) rfl (by kernel_rfl) rfl (fun ρ w b h => part_spot0 ρ _ _ w b 0 h)
  ·exact owe_pload rfl wA rfl (oO 0 14) (k := 0) rfl (by kernel_rfl) rfl (fun ρ w b u h1 h2 h3 => pload_st ldr_aimp (k := 0) rfl (by decide) (by decide) ρ _ _ w b u h1 h2 h3)
  ·exact lod 0 wA (loads_of strct_spot shp_st)
  ·exact ch1 wA ((qO 2 16 rfl).imp (sp_imp (fun v w h => h) (pl_vv lv ls dsh) (fun v w h => h) (fun v w h => h) (piz_zv hR))) (fresh_is _) (fun w u0 h0 => (srw_w w pa nD nL nT K D L τ dn hD hL hT hK lD lL lT u0 _ _ _ _ _ _ _ _ _ h0 (by omega) ls ((nL - 1 - k : Nat) : Int) (by omega)))
  ·exact mO 1 15
  ·exact mO 3 17
 intro _ a2 _ (S2 : Sta w 92 [(2, (qxcv81 pa nD nL nT K D L τ dn k lo KB KN sh vs vr b N R)), (3, (.box 29 (Zv X Kx))), (4, (qxcv80))] [(5, (AP pa nD nL nT K D L τ dn)), (6, iV ((nL - 1 - k : Nat) : Int))] _ _ _)
 refine wq [.val (AP pa nD nL nT K D L τ dn), .val (AP pa nD nL nT K D L τ dn), .val (AtE 2 (SF [(Vv nD D K), (Mv nL L K)])), .val (AtE 1 (Vv nD D K)), .val (Vv nD D K), .val (iV ((nL - 1 - k : Nat) : Int)), .val (AtE 2 (Zv D0 K)), .val (Zv D0 K), .val (AP pa nD nL nT K D L τ dn), .val (AP pa nD nL nT K D L τ dn), .val (AtE 2 (SF [(Vv nD D K), (Mv nL L K)])), .val (AtE 1 (Vv nD D K)), .val (Vv nD D K), .val (iV ((nL - 1 - k : Nat) : Int)), .val (iV ((nL - 1 - k + 1 : Nat) : Int)), .val (AtE 2 (Zv D1 K)), .val (Zv D1 K), .new (.box 29 zI), .new (.box 29 zI), .put (.inr 17) (.box 29 (Zv D0 K)), .put (.inr 18) (qxcv84 K D1)] [.inr 0, .inr 1, .inr 2, .inl 17, .inl 18] [.inr 0, .inr 1] S2 ?_ ?_
 ·repeat' refine And.intro ?_ ?_
  ·trivial
  ·exact mS 0 5
  ·exact owe_ptnil rfl wA rfl (oO 0 18) ap_pt rfl
  ·exact owe_apart (d := 0) rfl wA rfl ((oO 1 19).imp ap_at) (fun ρ w b k h => part_aimD ρ _ _ w b k h) am_p0 rfl
  ·exact owe_apart (d := 0) rfl wA rfl (oO 2 20) (fun ρ w b k h => part_gsoD ρ _ _ w b k h) (sf_pp (f := 0) rfl) rfl
  ·exact owe_aload rfl wA rfl ldr_row1 (by decide) cel_vv (oO 3 21) rfl
  ·exact mS 1 6
  ·exact owe_aindex rfl wA rfl idx_ints (oO 4 22) (oO 5 23) (by rw [← eD0]; exact zv_at (by omega)) rfl
  ·exact owe_aload rfl wA rfl ldr_int (by decide) (cel_shp (by decide) shp_zv) (oO 6 24) rfl
  ·exact mS 0 5
  ·exact owe_ptnil rfl wA rfl (oO 8 26) ap_pt rfl
  ·exact owe_apart (d := 0) rfl wA rfl ((oO 9 27).imp ap_at) (fun ρ w b k h => part_aimD ρ _ _ w b k h) am_p0 rfl
  ·exact owe_apart (d := 0) rfl wA rfl (oO 10 28) (fun ρ w b k h => part_gsoD ρ _ _ w b k h) (sf_pp (f := 0) rfl) rfl
  ·exact owe_aload rfl wA rfl ldr_row1 (by decide) cel_vv (oO 11 29) rfl
  ·exact mS 1 6
  ·exact b_add_int wA (oO 13 31) (opnd_const _)
  ·exact owe_aindex rfl wA rfl idx_ints (oO 12 30) (oO 14 32) (by rw [← eD1]; exact zv_at (by omega)) rfl
  ·exact owe_aload rfl wA rfl ldr_int (by decide) (cel_shp (by decide) shp_zv) (oO 15 33) rfl
  ·exact owe_new rfl wA rfl rfl (fun ρ w => alloc_int ρ _ w)
  ·exact owe_new rfl wA rfl rfl (fun ρ w => alloc_int ρ _ w)
  ·exact owe_put 17 rfl wA rfl (by kernel_rfl) rfl (oO 7 25) (stores_of strct_int shp_z0 shp_zv) rfl
  ·exact owe_put 18 rfl wA rfl (by kernel_rfl) rfl (oO 16 34) (stores_of strct_int shp_z0 shp_zv) rfl
 intro _ a3 _ (S3 : Sta w 92 [(2, (qxcv81 pa nD nL nT K D L τ dn k lo KB KN sh vs vr b N R)), (3, (.box 29 (Zv X Kx))), (4, (qxcv80)), (7, (.box 29 (Zv D0 K))), (8, (qxcv84 K D1))] [(5, (AP pa nD nL nT K D L τ dn)), (6, iV ((nL - 1 - k : Nat) : Int))] _ _ _)
 refine wq [.val (AP pa nD nL nT K D L τ dn), .val (Zv X Kx), .val (iV ((nL - 1 - k : Nat) : Int)), .val ((ZN (Z)) w.heap.size), .new (.box 29 zI), .put (.inr 4) (.box 29 ((ZN (Z)) w.heap.size))] [.inr 0, .inr 2, .inr 3, .inr 4, .inl 4] [.inr 0] S3 ?_ ?_
 ·apply jj6
  ·exact mS 0 5
  ·exact lod 1 wA (loads_of strct_int shp_zv)
  ·exact mS 1 6
  ·exact ch3 wA (qO 0 35 rfl) (qO 1 36 rfl) (qO 2 37 rfl) (fresh_zn _) (fun w u v i h1 h2 h3 => by obtain rfl : u = pa := h1.now.1; obtain rfl : i = _ := h3.now; exact Gives.cast (ψ := ZN Z) (ash_w w _ nD nL nT K D L τ dn hD hL hT hK lD lL lT h1 v X Kx (nL - 1 - k) h2 (by omega) hKx) (by rw [eZ]))
  ·exact owe_new rfl wA rfl rfl (fun ρ w => alloc_int ρ _ w)
  ·exact owe_put 4 rfl wA rfl (by kernel_rfl) rfl (oO 3 38) (stores_of strct_int shp_z0 shp_zn) rfl
 intro _ a4 _ (S4 : Sta w 92 [(2, (qxcv81 pa nD nL nT K D L τ dn k lo KB KN sh vs vr b N R)), (4, (qxcv80)), (7, (.box 29 (Zv D0 K))), (8, (qxcv84 K D1)), (9, (.box 29 ((ZN (Z)) w.heap.size)))] [(5, (AP pa nD nL nT K D L τ dn))] _ _ _)
 refine wq [.val ((ZN (Z)) w.heap.size), .val (Zv D1 K), .val ((ZN (Z * D1)) w.heap.size), .val (Part a4 2 2), .val (Zv b KB), .val ((ZN (W)) w.heap.size), .new (.box 29 zI), .put (.inr 6) (.box 29 ((ZN (W)) w.heap.size))] [.inr 0, .inr 1, .inr 2, .inr 3, .inr 4, .inl 6] [.inr 0] S4 ?_ ?_
 ·repeat' refine And.intro ?_ ?_
  ·trivial
  ·exact lod 4 wA (loads_of strct_int shp_zn)
  ·exact lod 3 wA (loads_of strct_int shp_zv)
  ·exact cc2 wA (qO 0 39 rfl) (qO 1 40 rfl) (fresh_zn _) (fun w u v h1 h2 => g_zmul (by omega) w u v ((zn_zv q1) _ _ h1) ((fun _ _ h => h) _ _ h2))
  ·exact owe_part rfl wA rfl (k := 0) rfl (by kernel_rfl) rfl (fun ρ w b h => part_spot2 ρ _ _ w b 0 h)
  ·exact owe_pload rfl wA rfl (oO 3 42) (k := 0) rfl (by kernel_rfl) rfl (fun ρ w b u h1 h2 h3 => pload_st ldr_int (k := 2) rfl (by decide) (by decide) ρ _ _ w b u h1 h2 h3)
  ·exact cc2 wA (qO 2 41 rfl) (qO 4 43 rfl) (fresh_zn _) (fun w u0 u1 h0 h1 => Gives.cast (ψ := (ZN (W))) ((fun w u v h1 h2 => g_zadd (by omega) (by omega) w u v ((zn_zv q2) _ _ h1) ((fun _ _ h => h) _ _ h2)) w u0 u1 h0 h1) (by rw [eW]))
  ·exact owe_new rfl wA rfl rfl (fun ρ w => alloc_int ρ _ w)
  ·exact owe_put 6 rfl wA rfl (by kernel_rfl) rfl (oO 5 44) (stores_of strct_int shp_z0 shp_zn) rfl
 intro _ a5 _ (S5 : Sta w 92 [(2, (qxcv81 pa nD nL nT K D L τ dn k lo KB KN sh vs vr b N R)), (4, (qxcv80)), (7, (.box 29 (Zv D0 K))), (8, (qxcv84 K D1)), (9, (.box 29 ((ZN (Z)) w.heap.size))), (10, (.box 29 ((ZN (W)) w.heap.size)))] [(5, (AP pa nD nL nT K D L τ dn))] _ _ _)
 refine wq [.val (AP pa nD nL nT K D L τ dn), .val (Part a5 2 1), .val (Ar 2 k (Pl vs (Zl sh lo))), .val (Part a5 2 1), .val (Ar 2 k (Pl vs (Zl sh lo))), .val (iV (k : Nat)), .val (Part a5 2 1), .val (Ar 2 k (Pl vs (Zl sh lo))), .val (iV (k : Nat)), .val (ArC 2 k (Pl vs (Zl sh lo))), .val ((ZN (Z)) w.heap.size), .val (Sng 29 2 ((ZN (Z)) w.heap.size) w.heap.size), .val (ArN 2 (k + 1) (Pl vs (Zl sh lo) ++ [((ZN (Z)) w.heap.size)]) w.heap.size), .val (Part a5 2 4), .val (Zv N KN), .val (Zv D0 K), .val ((ZN (N * D0)) w.heap.size), .val (Part a5 2 6), .val (PI vr (ZN R lo)), .val ((ZN (W)) w.heap.size), .val ((ZN (W)) w.heap.size), .val ((ZN (W * W)) w.heap.size), .val ((ZN (R * (W * W))) w.heap.size), .val ((ZN (M)) w.heap.size), .val (Part a5 2 6), .val (PI vr (ZN R lo)), .val (SP (AP pa nD nL nT K D L τ dn) (ArN 2 (k + 1) (Pl vs (Zl sh lo) ++ [((ZN (Z)) w.heap.size)]) w.heap.size) zI ((ZN (M)) w.heap.size) (PI vr (ZN R lo))), .new (qxcv80), .put (.inr 27) (qxcv83 w pa nD nL nT K D L τ dn k lo sh vs vr R Z M)] [.inr 0, .inr 1, .inr 3, .inl 27] [] S5 ?_ ?_
 ·repeat' refine And.intro ?_ ?_
  ·trivial
  ·exact mS 0 5
  ·exact owe_part rfl wA rfl (k := 0) rfl (by kernel_rfl) rfl (fun ρ w b h => part_spot1 ρ _ _ w b 0 h)
  ·exact owe_pload rfl wA rfl (oO 1 46) (k := 0) rfl (by kernel_rfl) rfl (fun ρ w b u h1 h2 h3 => pload_st ldr_row1 (k := 1) rfl (by decide) (by decide) ρ _ _ w b u h1 h2 h3)
  ·exact owe_part rfl wA rfl (k := 0) rfl (by kernel_rfl) rfl (fun ρ w b h => part_spot1 ρ _ _ w b 0 h)
  ·exact owe_pload rfl wA rfl (oO 3 48) (k := 0) rfl (by kernel_rfl) rfl (fun ρ w b u h1 h2 h3 => pload_st ldr_row1 (k := 1) rfl (by decide) (by decide) ρ _ _ w b u h1 h2 h3)
  ·exact owe_len rfl wA rfl (oO 4 49) ar_len Try.underlying22 rfl
  ·exact owe_part rfl wA rfl (k := 0) rfl (by kernel_rfl) rfl (fun ρ w b h => part_spot1 ρ _ _ w b 0 h)
  ·exact owe_pload rfl wA rfl (oO 6 51) (k := 0) rfl (by kernel_rfl) rfl (fun ρ w b u h1 h2 h3 => pload_st ldr_row1 (k := 1) rfl (by decide) (by decide) ρ _ _ w b u h1 h2 h3)
  ·exact owe_len rfl wA rfl (oO 7 52) ar_len Try.underlying22 rfl
  ·exact owe_cut3 rfl wA rfl (oO 2 47) (oO 5 50) (oO 8 53) rfl
  ·exact lod 4 wA (loads_of strct_int shp_zn)
  ·exact owe_b1 rfl wA rfl bld_int (oO 10 55) (cel_shp (by decide) shp_zn) rfl
  ·exact owe_appfull rfl wA rfl (oO 9 54) cel_plz (oO 11 56) einf_int Try.underlying22 ⟨by unfold maxLen; omega, by omega⟩ rfl
  ·exact owe_part rfl wA rfl (k := 0) rfl (by kernel_rfl) rfl (fun ρ w b h => part_spot3 ρ _ _ w b 0 h)
  ·exact owe_pload rfl wA rfl (oO 13 58) (k := 0) rfl (by kernel_rfl) rfl (fun ρ w b u h1 h2 h3 => pload_st ldr_int (k := 3) rfl (by decide) (by decide) ρ _ _ w b u h1 h2 h3)
  ·exact lod 2 wA (loads_of strct_int shp_zv)
  ·exact cc2 wA (qO 14 59 rfl) (qO 15 60 rfl) (fresh_zn _) (fun w u v h1 h2 => g_zmul (by omega) w u v ((fun _ _ h => h) _ _ h1) ((fun _ _ h => h) _ _ h2))
  ·exact owe_part rfl wA rfl (k := 0) rfl (by kernel_rfl) rfl (fun ρ w b h => part_spot4 ρ _ _ w b 0 h)
  ·exact owe_pload rfl wA rfl (oO 17 62) (k := 0) rfl (by kernel_rfl) rfl (fun ρ w b u h1 h2 h3 => pload_st ldr_int (k := 4) rfl (by decide) (by decide) ρ _ _ w b u h1 h2 h3)
  ·exact lod 5 wA (loads_of strct_int shp_zn)
  ·exact lod 5 wA (loads_of strct_int shp_zn)
  ·exact cc2 wA (qO 19 64 rfl) (qO 20 65 rfl) (fresh_zn _) (fun w u v h1 h2 => g_zmul (by omega) w u v ((zn_zv q3) _ _ h1) ((zn_zv q3) _ _ h2))
  ·exact cc2 wA (qO 18 63 rfl) (qO 21 66 rfl) (fresh_zn _) (fun w u v h1 h2 => g_zmul (by omega) w u v ((piz_zv hR) _ _ h1) ((zn_zv q4) _ _ h2))
  ·exact cc2 wA (qO 16 61 rfl) (qO 22 67 rfl) (fresh_zn _) (fun w u0 u1 h0 h1 => Gives.cast (ψ := (ZN (M))) ((fun w u v h1 h2 => g_zadd (by omega) (by omega) w u v ((zn_zv q6) _ _ h1) ((zn_zv q5) _ _ h2)) w u0 u1 h0 h1) (by rw [eM]))
  ·exact owe_part rfl wA rfl (k := 0) rfl (by kernel_rfl) rfl (fun ρ w b h => part_spot4 ρ _ _ w b 0 h)
  ·exact owe_pload rfl wA rfl (oO 24 69) (k := 0) rfl (by kernel_rfl) rfl (fun ρ w b u h1 h2 h3 => pload_st ldr_int (k := 4) rfl (by decide) (by decide) ρ _ _ w b u h1 h2 h3)
  ·exact owe_build_sp4 rfl wA rfl (oO 0 45) ap_pt (oO 12 57) (fun v w h => by obtain ⟨p, c, e⟩ := ar_len v w h.1; exact ⟨_, _, _, e⟩) (oO 23 68) shp_zn (oO 25 70) shp_piz rfl
  ·exact owe_new rfl wA rfl rfl (fun ρ w => alloc_spot ρ _ w)
  ·exact owe_put 27 rfl wA rfl (by kernel_rfl) rfl (oO 26 71) (stores_of strct_spot shp_s8 shp_st) rfl
 intro _ a6 _ (S6 : Sta w 92 [(2, (qxcv81 pa nD nL nT K D L τ dn k lo KB KN sh vs vr b N R)), (4, (qxcv80)), (8, (qxcv84 K D1)), (11, (qxcv83 w pa nD nL nT K D L τ dn k lo sh vs vr R Z M))] [] _ _ _)
 refine wp_seq ?_
 refine wq [.val (Part a6 11 4), .val ((ZN (M)) w.heap.size), .val (Zv D1 K), .val ((TWO (ZN (N1)) (IS (.int .i64 0))) w.heap.size), .val ((TWO (ZN (N1)) (IS (.int .i64 0))) w.heap.size), .val ((ZN (N1)) w.heap.size), .val (iV 0), .new (.box 29 zI), .put (.inr 7) (.box 29 ((ZN (N1)) w.heap.size)), .val (iV 0)] [.inr 0, .inr 1, .inr 2, .inr 3, .inl 7] [.inl 9] S6 ?_ ?_
 ·repeat' refine And.intro ?_ ?_
  ·trivial
  ·exact owe_part rfl wA rfl (k := 3) rfl (by kernel_rfl) rfl (fun ρ w b h => part_spot3 ρ _ _ w b 0 h)
  ·exact owe_pload rfl wA rfl (oO 0 73) (k := 3) rfl (by kernel_rfl) rfl (fun ρ w b u h1 h2 h3 => pload_st ldr_int (k := 3) rfl (by decide) (by decide) ρ _ _ w b u h1 h2 h3)
  ·exact lod 2 wA (loads_of strct_int shp_zv)
  ·exact cc2 wA (qO 1 74 rfl) (qO 2 75 rfl) (fresh_two (fresh_zn _) (fresh_is _)) (fun w u v h1 h2 => Gives.cast (ψ := (TWO (ZN (N1)) (IS (.int .i64 0)))) (g_zexact2 hd0 hm (by omega) w u v ((zn_zv q7) _ _ h1) ((fun _ _ h => h) _ _ h2)) (by rw [eN]))
  ·exact mO 3 76
  ·exact e20 wA (oO 4 72)
  ·exact e21 wA (oO 4 72)
  ·exact owe_new rfl wA rfl rfl (fun ρ w => alloc_int ρ _ w)
  ·exact owe_put 7 rfl wA rfl (by kernel_rfl) rfl (oO 5 77) (stores_of strct_int shp_z0 shp_zn) rfl
  ·exact mO 6 78
 intro _ a7 _ (S7 : Sta w 92 [(2, (qxcv81 pa nD nL nT K D L τ dn k lo KB KN sh vs vr b N R)), (4, (qxcv80)), (8, (qxcv84 K D1)), (11, (qxcv83 w pa nD nL nT K D L τ dn k lo sh vs vr R Z M)), (12, (.box 29 ((ZN (N1)) w.heap.size)))] [(13, iV 0)] _ _ _)
 refine wq [.val (iV 0), kT] [.inr 0, .inr 1, .inr 2, .inr 3, .inr 4] [.inl 1] S7 ?_ ?_
 ·apply jj2
  ·exact mS 0 13
  ·exact b_eql_errno_t wA (oO 0 79) (opnd_const _) (h := rfl)
 intro _ a8 _ (S8 : Sta w 92 [(2, (qxcv81 pa nD nL nT K D L τ dn k lo KB KN sh vs vr b N R)), (4, (qxcv80)), (8, (qxcv84 K D1)), (11, (qxcv83 w pa nD nL nT K D L τ dn k lo sh vs vr R Z M)), (12, (.box 29 ((ZN (N1)) w.heap.size)))] [(80, bT)] _ _ _)
 refine wp_cond_true (S8.bool 0 80 rfl) ?_
 refine wr [.val ((ZN (N1)) w.heap.size), .val (Part a8 11 4), .put (.inl 11) (.box 54 (SP (AP pa nD nL nT K D L τ dn) (ArN 2 (k + 1) (Pl vs (Zl sh lo) ++ [((ZN (Z)) w.heap.size)]) w.heap.size) zI ((ZN (N1)) w.heap.size) (PI vr (ZN R lo))))] [.inr 0, .inr 1, .inr 3] [] S8 ?_ ?_
 ·apply jj3
  ·exact lod 4 wA (loads_of strct_int shp_zn)
  ·exact owe_part rfl wA rfl (k := 3) rfl (by kernel_rfl) rfl (fun ρ w b h => part_spot3 ρ _ _ w b 0 h)
  ·exact owe_pset (m := 3) rfl wA rfl (oO 1 82) (k := 3) rfl (by kernel_rfl) (oO 0 81) sto_int (cel_shp (by decide) shp_zn) (by decide) (by decide) rfl (by kernel_rfl) rfl
 intro _ a9 _ (S9 : Sta w 92 [(2, (qxcv81 pa nD nL nT K D L τ dn k lo KB KN sh vs vr b N R)), (4, (qxcv80)), (11, (.box 54 (SP (AP pa nD nL nT K D L τ dn) (ArN 2 (k + 1) (Pl vs (Zl sh lo) ++ [((ZN (Z)) w.heap.size)]) w.heap.size) zI ((ZN (N1)) w.heap.size) (PI vr (ZN R lo)))))] [] _ _ _)
 refine thenN ?_
 refine wq [.val (SP (AP pa nD nL nT K D L τ dn) (ArN 2 (k + 1) (Pl vs (Zl sh lo) ++ [((ZN (Z)) w.heap.size)]) w.heap.size) zI ((ZN (N1)) w.heap.size) (PI vr (ZN R lo))), .val ((ZN (fB (sh ++ [Z]) L nL (k + 1))) w.heap.size), .val (Part a9 11 2), .put (.inl 11) (.box 54 (SP (AP pa nD nL nT K D L τ dn) (ArN 2 (k + 1) (Pl vs (Zl sh lo) ++ [((ZN (Z)) w.heap.size)]) w.heap.size) ((ZN (fB (sh ++ [Z]) L nL (k + 1))) w.heap.size) ((ZN (N1)) w.heap.size) (PI vr (ZN R lo))))] [.inr 0, .inr 1, .inr 2] [] S9 ?_ ?_
 ·apply jj4
  ·exact lod 2 wA (loads_of strct_spot shp_st)
  ·exact ch1 wA ((qO 0 88 rfl).imp (sp_imp (fun v w h => h) (arn_vv lv ls d2) zero_zv (zn_zv q9) (piz_zv hR))) (fresh_zn _) (fun w u0 h0 => (ssm_any w pa nD nL nT K D L τ dn hD hL hT hK lD lL lT u0 (k + 1) _ _ _ _ (sh ++ [Z]) _ _ _ h0 (by omega) (by simp [ls]) (Nat.le_refl _) hr))
  ·exact owe_part rfl wA rfl (k := 2) rfl (by kernel_rfl) rfl (fun ρ w b h => part_spot2 ρ _ _ w b 0 h)
  ·exact owe_pset (m := 2) rfl wA rfl (oO 2 90) (k := 2) rfl (by kernel_rfl) (oO 1 89) sto_int (cel_shp (by decide) shp_zn) (by decide) (by decide) rfl (by kernel_rfl) rfl
 intro B10 a10 W10 (S10 : Sta w 92 [(2, (qxcv81 pa nD nL nT K D L τ dn k lo KB KN sh vs vr b N R)), (4, (qxcv80)), (11, (.box 54 (SP (AP pa nD nL nT K D L τ dn) (ArN 2 (k + 1) (Pl vs (Zl sh lo) ++ [((ZN (Z)) w.heap.size)]) w.heap.size) ((ZN (fB (sh ++ [Z]) L nL (k + 1))) w.heap.size) ((ZN (N1)) w.heap.size) (PI vr (ZN R lo)))))] [] _ _ _)
 replace S10 : Sta w 92 [(2, (qxcv81 pa nD nL nT K D L τ dn k lo KB KN sh vs vr b N R)), (4, (qxcv80)), (11, (qxcv82 w pa nL L k sh vs vr Z N1))] [] B10 a10 W10 := S10.reboxS 2 rfl (sp_imp ap_is (arn_lf lv ls) (fun v w h => h) (fun v w h => h) ap_is)
 refine wq [.val (SP (Is (pa)) ((LF 2 (k + 1) (vs.map IS ++ [ZN Z])) w.heap.size) ((ZN (fB (sh ++ [Z]) L nL (k + 1))) w.heap.size) ((ZN (N1)) w.heap.size) (Is (vr))), .put (.inl 4) (qxcv82 w pa nL L k sh vs vr Z N1)] [.inr 0, .inr 1, .inr 2] [] S10 ?_ ?_
 ·apply jj2
  ·exact lod 2 wA (loads_of strct_spot shp_st)
  ·exact owe_set rfl wA rfl (k := 1) rfl (by kernel_rfl) (oO 0 91) (stores_of strct_spot shp_s8 shp_st) rfl
 intro _ a11 _ (S11 : Sta w 92 [(2, (qxcv81 pa nD nL nT K D L τ dn k lo KB KN sh vs vr b N R)), (4, (qxcv82 w pa nL L k sh vs vr Z N1)), (11, (qxcv82 w pa nL L k sh vs vr Z N1))] [] _ _ _)
 refine wp_ret ?_
 exact end_one S11 rfl (res_cell S11 1 4 rfl strct_spot shp_st)

abbrev qqi620  : Rk := .box 54 (Is (.agg #[.pointer none, .slice none 0 0, .bool false, .slice none 0 0, .bool false, .slice none 0 0, .bool false, .slice none 0 0]))
abbrev qqi621 (pa : Value) (nD : Nat) (nL : Nat) (nT : Nat) (K : Nat) (D : List Int) (L : List (List Int)) (τ : List Int) (dn : Int) (k : Nat) (lo : Nat) (KB : Nat) (KN : Nat) (sh : List Int) (vs : List Value) (vr : Value) (b : Int) (N : Int) (R : Int) : Rk := .box 54 (SP (AP pa nD nL nT K D L τ dn) (Ar 2 k (Pl vs (Zl sh lo))) (Zv b KB) (Zv N KN) (PI vr (ZN R lo)))
abbrev qqi622 (w : World) (pa : Value) (nL : Nat) (L : List (List Int)) (k : Nat) (sh : List Int) (vs : List Value) (R : Int) (Z : Int) (D1 : Int) (M : Int) : Rk := .box 54 (SP (Is (pa)) ((LF 2 (k + 1) (vs.map IS ++ [ZN Z])) w.heap.size) ((ZN (fB (sh ++ [Z]) L nL (k + 1))) w.heap.size) ((ZN (M)) w.heap.size) ((ZN (R * D1)) w.heap.size))
abbrev qqi623  : Rk := .box 29 zI
abbrev qqi624 (w : World) (pa : Value) (nD : Nat) (nL : Nat) (nT : Nat) (K : Nat) (D : List Int) (L : List (List Int)) (τ : List Int) (dn : Int) (k : Nat) (lo : Nat) (sh : List Int) (vs : List Value) (vr : Value) (R : Int) (Z : Int) (M : Int) : Rk := .box 54 (SP (AP pa nD nL nT K D L τ dn) (ArN 2 (k + 1) (Pl vs (Zl sh lo) ++ [((ZN (Z)) w.heap.size)]) w.heap.size) zI ((ZN (M)) w.heap.size) (PI vr (ZN R lo)))
abbrev qqi625 (K : Nat) (D1 : Int) : Rk := .box 29 (Zv D1 K)
set_option maxHeartbeats 4000000 in
theorem chl_o (w : World) (pa : Value) (nD nL nT K : Nat) (D : List Int) (L : List (List Int)) (τ : List Int) (dn : Int) (hD : nD ≤ 1048577) (hL : nL ≤ 1048576) (hT : nT ≤ 1048576) (hK : K ≤ 16777216) (lD : D.length = nD) (lL : L.length = nL) (lT : τ.length = nT) (u x : Value) (k lo Ks KB KN Kx : Nat) (sh : List Int) (vs : List Value) (vr : Value) (b N R X Z D0 D1 W M N1 : Int) (h : Hs w (SP (AP pa nD nL nT K D L τ dn) (Ar 2 k (Pl vs (Zl sh lo))) (Zv b KB) (Zv N KN) (PI vr (ZN R lo))) u) (hx : Hs w (Zv X Kx) x) (hk : k < nL) (hnT : nT = nL) (hnD : nD = nL + 1) (ls : sh.length = k) (lv : vs.length = k) (hr : ∀ j, j < nL → (L.getD j []).length = j) (hd0 : D1 ≠ 0) (dsh : Dl sh Ks) (hKs : Ks ≤ 67108864) (hKB : KB ≤ 134217728) (hKN : KN ≤ 134217728) (hR : (digs R.natAbs).length ≤ 134217728) (hKx : Kx ≤ 16777216) (eZ : X * dn - τ.getD (nL - 1 - k) 0 = Z) (eD0 : D.getD (nL - 1 - k) 0 = D0) (eD1 : D.getD (nL - 1 - k + 1) 0 = D1) (eW : Z * D1 + b = W) (eM : N * D0 + R * (W * W) = M) (hm : rm M D1 ≠ 0) :
  Calls Try.prog 35 #[u, x] w (Gives (SPN (IS (pa)) (LF 2 (k + 1) (vs.map IS ++ [ZN Z])) (ZN (fB (sh ++ [Z]) L nL (k + 1))) (ZN (M)) (ZN (R * D1))) w) := by
 obtain ⟨_, _, _, _, _, ha, _, hbv, hNv, _⟩ := sp_at h.now
 have hamd := ap_dl ha
 have hpb := zv_dlR hbv
 have hpN := zv_dlR hNv
 have hpx := zv_dlR hx.now
 have hp0 : (digs D0.natAbs).length ≤ K := by rw [← eD0]; exact dl_getD hamd.1 _
 have hp1 : (digs D1.natAbs).length ≤ K := by rw [← eD1]; exact dl_getD hamd.1 _
 have q0 : (digs (X * dn).natAbs).length ≤ 33554432 := by rw [Int.natAbs_mul]; exact Nat.le_trans (digs_mul_len hpx hamd.2.2.2) (by omega)
 have q1 : (digs Z.natAbs).length ≤ 33554433 := by rw [← eZ]; exact digs_sub_len q0 (Nat.le_trans (dl_getD hamd.2.2.1 _) (by omega))
 have q2 : (digs (Z * D1).natAbs).length ≤ 50331649 := by rw [Int.natAbs_mul]; exact Nat.le_trans (digs_mul_len q1 hp1) (by omega)
 have q3 : (digs W.natAbs).length ≤ 134217729 := by rw [← eW]; exact dl_add (Nat.le_trans q2 (by omega)) (Nat.le_trans hpb hKB)
 have q4 : (digs (W * W).natAbs).length ≤ 268435458 := by rw [Int.natAbs_mul]; exact Nat.le_trans (digs_mul_len q3 q3) (by omega)
 have q5 : (digs (R * (W * W)).natAbs).length ≤ 402653186 := by rw [Int.natAbs_mul]; exact Nat.le_trans (digs_mul_len hR q4) (by omega)
 have q6 : (digs (N * D0).natAbs).length ≤ 402653186 := by rw [Int.natAbs_mul]; exact Nat.le_trans (digs_mul_len hpN hp0) (by omega)
 have q7 : (digs M.natAbs).length ≤ 402653187 := by rw [← eM]; exact dl_add q6 q5
 have q8 : (digs (R * D1).natAbs).length ≤ 150994944 := by rw [Int.natAbs_mul]; exact Nat.le_trans (digs_mul_len hR hp1) (by omega)
 have d2 : Dl (sh ++ [Z]) 67108864 := dl_snoc (fun i z hz => Nat.le_trans (dsh i z hz) hKs) (Nat.le_trans q1 (by omega))
 refine calls_sta (sl := [(0, (SP (AP pa nD nL nT K D L τ dn) (Ar 2 k (Pl vs (Zl sh lo))) (Zv b KB) (Zv N KN) (PI vr (ZN R lo)))), (1, (Zv X Kx))]) Try.func35 rfl Try.ntmps35 (by simp) (args_cons rfl (h) (args_cons rfl (hx) args_nil)) ?_
 intro a0 S0
 refine wq [.new (qqi621 pa nD nL nT K D L τ dn k lo KB KN sh vs vr b N R), .new (.box 29 (Zv X Kx)), .new (qqi620)] [.inl 0, .inl 1, .inl 2] [] S0 ?_ ?_
 ·apply jj3
  ·exact owe_box rfl wA rfl (oS 0 0) rfl (fun ρ w h => box_spot shp_st ρ _ _ w h)
  ·exact owe_box rfl wA rfl (oS 1 1) rfl (fun ρ w h => box_int shp_zv ρ _ _ w h)
  ·exact owe_new rfl wA rfl rfl (fun ρ w => alloc_spot ρ _ w)
 intro _ a1 _ (S1 : Sta w 92 [(2, (qqi621 pa nD nL nT K D L τ dn k lo KB KN sh vs vr b N R)), (3, (.box 29 (Zv X Kx))), (4, (qqi620))] [] _ _ _)
 refine wq [.val (Part a1 2 0), .val (AP pa nD nL nT K D L τ dn), .val (SP (AP pa nD nL nT K D L τ dn) (Ar 2 k (Pl vs (Zl sh lo))) (Zv b KB) (Zv N KN) (PI vr (ZN R lo))), .val (iV ((nL - 1 - k : Nat) : Int)), .val (AP pa nD nL nT K D L τ dn), .val (iV ((nL - 1 - k : Nat) : Int))] [.inr 0, .inr 1, .inr 2] [.inl 4, .inl 5] S1 ?_ ?_
 ·apply jj6
  ·exact owe_part rfl wA rfl (k := 0) rfl (by kernel_rfl) rfl (fun ρ w b h => part_spot0 ρ _ _ w b 0 h)
  ·exact owe_pload rfl wA rfl (oO 0 14) (k := 0) rfl (by kernel_rfl) rfl (fun ρ w b u h1 h2 h3 => pload_st ldr_aimp (k := 0) rfl (by decide) (by decide) ρ _ _ w b u h1 h2 h3)
  ·exact lod 0 wA (loads_of strct_spot shp_st)
  ·exact ch1 wA ((qO 2 16 rfl).imp (sp_imp (fun v w h => h) (pl_vv lv ls dsh) (fun v w h => h) (fun v w h => h) (piz_zv hR))) (fresh_is _) (fun w u0 h0 => (srw_w w pa nD nL nT K D L τ dn hD hL hT hK lD lL lT u0 _ _ _ _ _ _ _ _ _ h0 (by omega) ls ((nL - 1 - k : Nat) : Int) (by omega)))
  ·exact mO 1 15
  ·exact mO 3 17
 intro _ a2 _ (S2 : Sta w 92 [(2, (qqi621 pa nD nL nT K D L τ dn k lo KB KN sh vs vr b N R)), (3, (.box 29 (Zv X Kx))), (4, (qqi620))] [(5, (AP pa nD nL nT K D L τ dn)), (6, iV ((nL - 1 - k : Nat) : Int))] _ _ _)
 refine wq [.val (AP pa nD nL nT K D L τ dn), .val (AP pa nD nL nT K D L τ dn), .val (AtE 2 (SF [(Vv nD D K), (Mv nL L K)])), .val (AtE 1 (Vv nD D K)), .val (Vv nD D K), .val (iV ((nL - 1 - k : Nat) : Int)), .val (AtE 2 (Zv D0 K)), .val (Zv D0 K), .val (AP pa nD nL nT K D L τ dn), .val (AP pa nD nL nT K D L τ dn), .val (AtE 2 (SF [(Vv nD D K), (Mv nL L K)])), .val (AtE 1 (Vv nD D K)), .val (Vv nD D K), .val (iV ((nL - 1 - k : Nat) : Int)), .val (iV ((nL - 1 - k + 1 : Nat) : Int)), .val (AtE 2 (Zv D1 K)), .val (Zv D1 K), .new (qqi623), .new (qqi623), .put (.inr 17) (.box 29 (Zv D0 K)), .put (.inr 18) (qqi625 K D1)] [.inr 0, .inr 1, .inr 2, .inl 17, .inl 18] [.inr 0, .inr 1] S2 ?_ ?_
 ·repeat' refine And.intro ?_ ?_
  ·trivial
  ·exact mS 0 5
  ·exact owe_ptnil rfl wA rfl (oO 0 18) ap_pt rfl
  ·exact owe_apart (d := 0) rfl wA rfl ((oO 1 19).imp ap_at) (fun ρ w b k h => part_aimD ρ _ _ w b k h) am_p0 rfl
  ·exact owe_apart (d := 0) rfl wA rfl (oO 2 20) (fun ρ w b k h => part_gsoD ρ _ _ w b k h) (sf_pp (f := 0) rfl) rfl
  ·exact owe_aload rfl wA rfl ldr_row1 (by decide) cel_vv (oO 3 21) rfl
  ·exact mS 1 6
  ·exact owe_aindex rfl wA rfl idx_ints (oO 4 22) (oO 5 23) (by rw [← eD0]; exact zv_at (by omega)) rfl
  ·exact owe_aload rfl wA rfl ldr_int (by decide) (cel_shp (by decide) shp_zv) (oO 6 24) rfl
  ·exact mS 0 5
  ·exact owe_ptnil rfl wA rfl (oO 8 26) ap_pt rfl
  ·exact owe_apart (d := 0) rfl wA rfl ((oO 9 27).imp ap_at) (fun ρ w b k h => part_aimD ρ _ _ w b k h) am_p0 rfl
  ·exact owe_apart (d := 0) rfl wA rfl (oO 10 28) (fun ρ w b k h => part_gsoD ρ _ _ w b k h) (sf_pp (f := 0) rfl) rfl
  ·exact owe_aload rfl wA rfl ldr_row1 (by decide) cel_vv (oO 11 29) rfl
  ·exact mS 1 6
  ·exact b_add_int wA (oO 13 31) (opnd_const _)
  ·exact owe_aindex rfl wA rfl idx_ints (oO 12 30) (oO 14 32) (by rw [← eD1]; exact zv_at (by omega)) rfl
  ·exact owe_aload rfl wA rfl ldr_int (by decide) (cel_shp (by decide) shp_zv) (oO 15 33) rfl
  ·exact owe_new rfl wA rfl rfl (fun ρ w => alloc_int ρ _ w)
  ·exact owe_new rfl wA rfl rfl (fun ρ w => alloc_int ρ _ w)
  ·exact owe_put 17 rfl wA rfl (by kernel_rfl) rfl (oO 7 25) (stores_of strct_int shp_z0 shp_zv) rfl
  ·exact owe_put 18 rfl wA rfl (by kernel_rfl) rfl (oO 16 34) (stores_of strct_int shp_z0 shp_zv) rfl
 intro _ a3 _ (S3 : Sta w 92 [(2, (qqi621 pa nD nL nT K D L τ dn k lo KB KN sh vs vr b N R)), (3, (.box 29 (Zv X Kx))), (4, (qqi620)), (7, (.box 29 (Zv D0 K))), (8, (qqi625 K D1))] [(5, (AP pa nD nL nT K D L τ dn)), (6, iV ((nL - 1 - k : Nat) : Int))] _ _ _)
 refine wq [.val (AP pa nD nL nT K D L τ dn), .val (Zv X Kx), .val (iV ((nL - 1 - k : Nat) : Int)), .val ((ZN (Z)) w.heap.size), .new (qqi623), .put (.inr 4) (.box 29 ((ZN (Z)) w.heap.size))] [.inr 0, .inr 2, .inr 3, .inr 4, .inl 4] [.inr 0] S3 ?_ ?_
 ·apply jj6
  ·exact mS 0 5
  ·exact lod 1 wA (loads_of strct_int shp_zv)
  ·exact mS 1 6
  ·exact ch3 wA (qO 0 35 rfl) (qO 1 36 rfl) (qO 2 37 rfl) (fresh_zn _) (fun w u v i h1 h2 h3 => by obtain rfl : u = pa := h1.now.1; obtain rfl : i = _ := h3.now; exact Gives.cast (ψ := ZN Z) (ash_w w _ nD nL nT K D L τ dn hD hL hT hK lD lL lT h1 v X Kx (nL - 1 - k) h2 (by omega) hKx) (by rw [eZ]))
  ·exact owe_new rfl wA rfl rfl (fun ρ w => alloc_int ρ _ w)
  ·exact owe_put 4 rfl wA rfl (by kernel_rfl) rfl (oO 3 38) (stores_of strct_int shp_z0 shp_zn) rfl
 intro _ a4 _ (S4 : Sta w 92 [(2, (qqi621 pa nD nL nT K D L τ dn k lo KB KN sh vs vr b N R)), (4, (qqi620)), (7, (.box 29 (Zv D0 K))), (8, (qqi625 K D1)), (9, (.box 29 ((ZN (Z)) w.heap.size)))] [(5, (AP pa nD nL nT K D L τ dn))] _ _ _)
 refine wq [.val ((ZN (Z)) w.heap.size), .val (Zv D1 K), .val ((ZN (Z * D1)) w.heap.size), .val (Part a4 2 2), .val (Zv b KB), .val ((ZN (W)) w.heap.size), .new (qqi623), .put (.inr 6) (.box 29 ((ZN (W)) w.heap.size))] [.inr 0, .inr 1, .inr 2, .inr 3, .inr 4, .inl 6] [.inr 0] S4 ?_ ?_
 ·repeat' refine And.intro ?_ ?_
  ·trivial
  ·exact lod 4 wA (loads_of strct_int shp_zn)
  ·exact lod 3 wA (loads_of strct_int shp_zv)
  ·exact cc2 wA (qO 0 39 rfl) (qO 1 40 rfl) (fresh_zn _) (fun w u v h1 h2 => g_zmul (by omega) w u v ((zn_zv q1) _ _ h1) ((fun _ _ h => h) _ _ h2))
  ·exact owe_part rfl wA rfl (k := 0) rfl (by kernel_rfl) rfl (fun ρ w b h => part_spot2 ρ _ _ w b 0 h)
  ·exact owe_pload rfl wA rfl (oO 3 42) (k := 0) rfl (by kernel_rfl) rfl (fun ρ w b u h1 h2 h3 => pload_st ldr_int (k := 2) rfl (by decide) (by decide) ρ _ _ w b u h1 h2 h3)
  ·exact cc2 wA (qO 2 41 rfl) (qO 4 43 rfl) (fresh_zn _) (fun w u0 u1 h0 h1 => Gives.cast (ψ := (ZN (W))) ((fun w u v h1 h2 => g_zadd (by omega) (by omega) w u v ((zn_zv q2) _ _ h1) ((fun _ _ h => h) _ _ h2)) w u0 u1 h0 h1) (by rw [eW]))
  ·exact owe_new rfl wA rfl rfl (fun ρ w => alloc_int ρ _ w)
  ·exact owe_put 6 rfl wA rfl (by kernel_rfl) rfl (oO 5 44) (stores_of strct_int shp_z0 shp_zn) rfl
 intro _ a5 _ (S5 : Sta w 92 [(2, (qqi621 pa nD nL nT K D L τ dn k lo KB KN sh vs vr b N R)), (4, (qqi620)), (7, (.box 29 (Zv D0 K))), (8, (qqi625 K D1)), (9, (.box 29 ((ZN (Z)) w.heap.size))), (10, (.box 29 ((ZN (W)) w.heap.size)))] [(5, (AP pa nD nL nT K D L τ dn))] _ _ _)
 refine wq [.val (AP pa nD nL nT K D L τ dn), .val (Part a5 2 1), .val (Ar 2 k (Pl vs (Zl sh lo))), .val (Part a5 2 1), .val (Ar 2 k (Pl vs (Zl sh lo))), .val (iV (k : Nat)), .val (Part a5 2 1), .val (Ar 2 k (Pl vs (Zl sh lo))), .val (iV (k : Nat)), .val (ArC 2 k (Pl vs (Zl sh lo))), .val ((ZN (Z)) w.heap.size), .val (Sng 29 2 ((ZN (Z)) w.heap.size) w.heap.size), .val (ArN 2 (k + 1) (Pl vs (Zl sh lo) ++ [((ZN (Z)) w.heap.size)]) w.heap.size), .val (Part a5 2 4), .val (Zv N KN), .val (Zv D0 K), .val ((ZN (N * D0)) w.heap.size), .val (Part a5 2 6), .val (PI vr (ZN R lo)), .val ((ZN (W)) w.heap.size), .val ((ZN (W)) w.heap.size), .val ((ZN (W * W)) w.heap.size), .val ((ZN (R * (W * W))) w.heap.size), .val ((ZN (M)) w.heap.size), .val (Part a5 2 6), .val (PI vr (ZN R lo)), .val (SP (AP pa nD nL nT K D L τ dn) (ArN 2 (k + 1) (Pl vs (Zl sh lo) ++ [((ZN (Z)) w.heap.size)]) w.heap.size) zI ((ZN (M)) w.heap.size) (PI vr (ZN R lo))), .new (qqi620), .put (.inr 27) (qqi624 w pa nD nL nT K D L τ dn k lo sh vs vr R Z M)] [.inr 0, .inr 1, .inr 3, .inl 27] [] S5 ?_ ?_
 ·repeat' refine And.intro ?_ ?_
  ·trivial
  ·exact mS 0 5
  ·exact owe_part rfl wA rfl (k := 0) rfl (by kernel_rfl) rfl (fun ρ w b h => part_spot1 ρ _ _ w b 0 h)
  ·exact owe_pload rfl wA rfl (oO 1 46) (k := 0) rfl (by kernel_rfl) rfl (fun ρ w b u h1 h2 h3 => pload_st ldr_row1 (k := 1) rfl (by decide) (by decide) ρ _ _ w b u h1 h2 h3)
  ·exact owe_part rfl wA rfl (k := 0) rfl (by kernel_rfl) rfl (fun ρ w b h => part_spot1 ρ _ _ w b 0 h)
  ·exact owe_pload rfl wA rfl (oO 3 48) (k := 0) rfl (by kernel_rfl) rfl (fun ρ w b u h1 h2 h3 => pload_st ldr_row1 (k := 1) rfl (by decide) (by decide) ρ _ _ w b u h1 h2 h3)
  ·exact owe_len rfl wA rfl (oO 4 49) ar_len Try.underlying22 rfl
  ·exact owe_part rfl wA rfl (k := 0) rfl (by kernel_rfl) rfl (fun ρ w b h => part_spot1 ρ _ _ w b 0 h)
  ·exact owe_pload rfl wA rfl (oO 6 51) (k := 0) rfl (by kernel_rfl) rfl (fun ρ w b u h1 h2 h3 => pload_st ldr_row1 (k := 1) rfl (by decide) (by decide) ρ _ _ w b u h1 h2 h3)
  ·exact owe_len rfl wA rfl (oO 7 52) ar_len Try.underlying22 rfl
  ·exact owe_cut3 rfl wA rfl (oO 2 47) (oO 5 50) (oO 8 53) rfl
  ·exact lod 4 wA (loads_of strct_int shp_zn)
  ·exact owe_b1 rfl wA rfl bld_int (oO 10 55) (cel_shp (by decide) shp_zn) rfl
  ·exact owe_appfull rfl wA rfl (oO 9 54) cel_plz (oO 11 56) einf_int Try.underlying22 ⟨by unfold maxLen; omega, by omega⟩ rfl
  ·exact owe_part rfl wA rfl (k := 0) rfl (by kernel_rfl) rfl (fun ρ w b h => part_spot3 ρ _ _ w b 0 h)
  ·exact owe_pload rfl wA rfl (oO 13 58) (k := 0) rfl (by kernel_rfl) rfl (fun ρ w b u h1 h2 h3 => pload_st ldr_int (k := 3) rfl (by decide) (by decide) ρ _ _ w b u h1 h2 h3)
  ·exact lod 2 wA (loads_of strct_int shp_zv)
  ·exact cc2 wA (qO 14 59 rfl) (qO 15 60 rfl) (fresh_zn _) (fun w u v h1 h2 => g_zmul (by omega) w u v ((fun _ _ h => h) _ _ h1) ((fun _ _ h => h) _ _ h2))
  ·exact owe_part rfl wA rfl (k := 0) rfl (by kernel_rfl) rfl (fun ρ w b h => part_spot4 ρ _ _ w b 0 h)
  ·exact owe_pload rfl wA rfl (oO 17 62) (k := 0) rfl (by kernel_rfl) rfl (fun ρ w b u h1 h2 h3 => pload_st ldr_int (k := 4) rfl (by decide) (by decide) ρ _ _ w b u h1 h2 h3)
  ·exact lod 5 wA (loads_of strct_int shp_zn)
  ·exact lod 5 wA (loads_of strct_int shp_zn)
  ·exact cc2 wA (qO 19 64 rfl) (qO 20 65 rfl) (fresh_zn _) (fun w u v h1 h2 => g_zmul (by omega) w u v ((zn_zv q3) _ _ h1) ((zn_zv q3) _ _ h2))
  ·exact cc2 wA (qO 18 63 rfl) (qO 21 66 rfl) (fresh_zn _) (fun w u v h1 h2 => g_zmul (by omega) w u v ((piz_zv hR) _ _ h1) ((zn_zv q4) _ _ h2))
  ·exact cc2 wA (qO 16 61 rfl) (qO 22 67 rfl) (fresh_zn _) (fun w u0 u1 h0 h1 => Gives.cast (ψ := (ZN (M))) ((fun w u v h1 h2 => g_zadd (by omega) (by omega) w u v ((zn_zv q6) _ _ h1) ((zn_zv q5) _ _ h2)) w u0 u1 h0 h1) (by rw [eM]))
  ·exact owe_part rfl wA rfl (k := 0) rfl (by kernel_rfl) rfl (fun ρ w b h => part_spot4 ρ _ _ w b 0 h)
  ·exact owe_pload rfl wA rfl (oO 24 69) (k := 0) rfl (by kernel_rfl) rfl (fun ρ w b u h1 h2 h3 => pload_st ldr_int (k := 4) rfl (by decide) (by decide) ρ _ _ w b u h1 h2 h3)
  ·exact owe_build_sp4 rfl wA rfl (oO 0 45) ap_pt (oO 12 57) (fun v w h => by obtain ⟨p, c, e⟩ := ar_len v w h.1; exact ⟨_, _, _, e⟩) (oO 23 68) shp_zn (oO 25 70) shp_piz rfl
  ·exact owe_new rfl wA rfl rfl (fun ρ w => alloc_spot ρ _ w)
  ·exact owe_put 27 rfl wA rfl (by kernel_rfl) rfl (oO 26 71) (stores_of strct_spot shp_s8 shp_st) rfl
 intro _ a6 _ (S6 : Sta w 92 [(2, (qqi621 pa nD nL nT K D L τ dn k lo KB KN sh vs vr b N R)), (4, (qqi620)), (8, (qqi625 K D1)), (11, (qqi624 w pa nD nL nT K D L τ dn k lo sh vs vr R Z M))] [] _ _ _)
 refine wp_seq ?_
 refine wq [.val (Part a6 11 4), .val ((ZN (M)) w.heap.size), .val (Zv D1 K), .val ((TWO (IS (.agg #[.bool false, .slice none 0 0])) (IS (.int .i64 20))) w.heap.size), .val ((TWO (IS (.agg #[.bool false, .slice none 0 0])) (IS (.int .i64 20))) w.heap.size), .val zI, .val (iV 20), .new (qqi623), .put (.inr 7) (qqi623), .val (iV 20)] [.inr 0, .inr 1, .inr 2, .inr 3, .inl 7] [.inl 9] S6 ?_ ?_
 ·repeat' refine And.intro ?_ ?_
  ·trivial
  ·exact owe_part rfl wA rfl (k := 3) rfl (by kernel_rfl) rfl (fun ρ w b h => part_spot3 ρ _ _ w b 0 h)
  ·exact owe_pload rfl wA rfl (oO 0 73) (k := 3) rfl (by kernel_rfl) rfl (fun ρ w b u h1 h2 h3 => pload_st ldr_int (k := 3) rfl (by decide) (by decide) ρ _ _ w b u h1 h2 h3)
  ·exact lod 2 wA (loads_of strct_int shp_zv)
  ·exact cc2 wA (qO 1 74 rfl) (qO 2 75 rfl) (fresh_two (fresh_is _) (fresh_is _)) (fun w u v h1 h2 => g_zexact1 hd0 hm (by omega) w u v ((zn_zv q7) _ _ h1) ((fun _ _ h => h) _ _ h2))
  ·exact mO 3 76
  ·exact e20 wA (oO 4 72)
  ·exact e21 wA (oO 4 72)
  ·exact owe_new rfl wA rfl rfl (fun ρ w => alloc_int ρ _ w)
  ·exact owe_put 7 rfl wA rfl (by kernel_rfl) rfl (oO 5 77) (stores_of strct_int shp_z0 shp_z0) rfl
  ·exact mO 6 78
 intro _ a7 _ (S7 : Sta w 92 [(2, (qqi621 pa nD nL nT K D L τ dn k lo KB KN sh vs vr b N R)), (4, (qqi620)), (8, (qqi625 K D1)), (11, (qqi624 w pa nD nL nT K D L τ dn k lo sh vs vr R Z M)), (12, (qqi623))] [(13, iV 20)] _ _ _)
 refine wq [.val (iV 20), kF] [.inr 0, .inr 1, .inr 2, .inr 3, .inr 4] [.inl 1] S7 ?_ ?_
 ·apply jj2
  ·exact mS 0 13
  ·exact b_eql_errno_f wA (oO 0 79) (opnd_const _) (h := by decide)
 intro _ a8 _ (S8 : Sta w 92 [(2, (qqi621 pa nD nL nT K D L τ dn k lo KB KN sh vs vr b N R)), (4, (qqi620)), (8, (qqi625 K D1)), (11, (qqi624 w pa nD nL nT K D L τ dn k lo sh vs vr R Z M)), (12, (qqi623))] [(80, bF)] _ _ _)
 refine wp_cond_false (S8.bool 0 80 rfl) ?_
 refine wr [.val (Part a8 11 6), .val (PI vr (ZN R lo)), .val (Zv D1 K), .val ((ZN (R * D1)) w.heap.size), .val (Part a8 11 6), .put (.inl 11) (.box 54 (SP (AP pa nD nL nT K D L τ dn) (ArN 2 (k + 1) (Pl vs (Zl sh lo) ++ [((ZN (Z)) w.heap.size)]) w.heap.size) zI ((ZN (M)) w.heap.size) ((ZN (R * D1)) w.heap.size)))] [.inr 0, .inr 1, .inr 3] [] S8 ?_ ?_
 ·apply jj6
  ·exact owe_part rfl wA rfl (k := 3) rfl (by kernel_rfl) rfl (fun ρ w b h => part_spot4 ρ _ _ w b 0 h)
  ·exact owe_pload rfl wA rfl (oO 0 83) (k := 3) rfl (by kernel_rfl) rfl (fun ρ w b u h1 h2 h3 => pload_st ldr_int (k := 4) rfl (by decide) (by decide) ρ _ _ w b u h1 h2 h3)
  ·exact lod 2 wA (loads_of strct_int shp_zv)
  ·exact cc2 wA (qO 1 84 rfl) (qO 2 85 rfl) (fresh_zn _) (fun w u v h1 h2 => g_zmul (by omega) w u v ((piz_zv hR) _ _ h1) ((fun _ _ h => h) _ _ h2))
  ·exact owe_part rfl wA rfl (k := 3) rfl (by kernel_rfl) rfl (fun ρ w b h => part_spot4 ρ _ _ w b 0 h)
  ·exact owe_pset (m := 4) rfl wA rfl (oO 4 87) (k := 3) rfl (by kernel_rfl) (oO 3 86) sto_int (cel_shp (by decide) shp_zn) (by decide) (by decide) rfl (by kernel_rfl) rfl
 intro _ a9 _ (S9 : Sta w 92 [(2, (qqi621 pa nD nL nT K D L τ dn k lo KB KN sh vs vr b N R)), (4, (qqi620)), (11, (.box 54 (SP (AP pa nD nL nT K D L τ dn) (ArN 2 (k + 1) (Pl vs (Zl sh lo) ++ [((ZN (Z)) w.heap.size)]) w.heap.size) zI ((ZN (M)) w.heap.size) ((ZN (R * D1)) w.heap.size))))] [] _ _ _)
 refine thenN ?_
 refine wq [.val (SP (AP pa nD nL nT K D L τ dn) (ArN 2 (k + 1) (Pl vs (Zl sh lo) ++ [((ZN (Z)) w.heap.size)]) w.heap.size) zI ((ZN (M)) w.heap.size) ((ZN (R * D1)) w.heap.size)), .val ((ZN (fB (sh ++ [Z]) L nL (k + 1))) w.heap.size), .val (Part a9 11 2), .put (.inl 11) (.box 54 (SP (AP pa nD nL nT K D L τ dn) (ArN 2 (k + 1) (Pl vs (Zl sh lo) ++ [((ZN (Z)) w.heap.size)]) w.heap.size) ((ZN (fB (sh ++ [Z]) L nL (k + 1))) w.heap.size) ((ZN (M)) w.heap.size) ((ZN (R * D1)) w.heap.size)))] [.inr 0, .inr 1, .inr 2] [] S9 ?_ ?_
 ·apply jj4
  ·exact lod 2 wA (loads_of strct_spot shp_st)
  ·exact ch1 wA ((qO 0 88 rfl).imp (sp_imp (fun v w h => h) (arn_vv lv ls d2) zero_zv (zn_zv q7) (zn_zv q8))) (fresh_zn _) (fun w u0 h0 => (ssm_any w pa nD nL nT K D L τ dn hD hL hT hK lD lL lT u0 (k + 1) _ _ _ _ (sh ++ [Z]) _ _ _ h0 (by omega) (by simp [ls]) (Nat.le_refl _) hr))
  ·exact owe_part rfl wA rfl (k := 2) rfl (by kernel_rfl) rfl (fun ρ w b h => part_spot2 ρ _ _ w b 0 h)
  ·exact owe_pset (m := 2) rfl wA rfl (oO 2 90) (k := 2) rfl (by kernel_rfl) (oO 1 89) sto_int (cel_shp (by decide) shp_zn) (by decide) (by decide) rfl (by kernel_rfl) rfl
 intro B10 a10 W10 (S10 : Sta w 92 [(2, (qqi621 pa nD nL nT K D L τ dn k lo KB KN sh vs vr b N R)), (4, (qqi620)), (11, (.box 54 (SP (AP pa nD nL nT K D L τ dn) (ArN 2 (k + 1) (Pl vs (Zl sh lo) ++ [((ZN (Z)) w.heap.size)]) w.heap.size) ((ZN (fB (sh ++ [Z]) L nL (k + 1))) w.heap.size) ((ZN (M)) w.heap.size) ((ZN (R * D1)) w.heap.size))))] [] _ _ _)
 replace S10 : Sta w 92 [(2, (qqi621 pa nD nL nT K D L τ dn k lo KB KN sh vs vr b N R)), (4, (qqi620)), (11, (qqi622 w pa nL L k sh vs R Z D1 M))] [] B10 a10 W10 := S10.reboxS 2 rfl (sp_imp ap_is (arn_lf lv ls) (fun v w h => h) (fun v w h => h) (fun v w h => h))
 refine wq [.val (SP (Is (pa)) ((LF 2 (k + 1) (vs.map IS ++ [ZN Z])) w.heap.size) ((ZN (fB (sh ++ [Z]) L nL (k + 1))) w.heap.size) ((ZN (M)) w.heap.size) ((ZN (R * D1)) w.heap.size)), .put (.inl 4) (qqi622 w pa nL L k sh vs R Z D1 M)] [.inr 0, .inr 1, .inr 2] [] S10 ?_ ?_
 ·apply jj2
  ·exact lod 2 wA (loads_of strct_spot shp_st)
  ·exact owe_set rfl wA rfl (k := 1) rfl (by kernel_rfl) (oO 0 91) (stores_of strct_spot shp_s8 shp_st) rfl
 intro _ a11 _ (S11 : Sta w 92 [(2, (qqi621 pa nD nL nT K D L τ dn k lo KB KN sh vs vr b N R)), (4, (qqi622 w pa nL L k sh vs R Z D1 M)), (11, (qqi622 w pa nL L k sh vs R Z D1 M))] [] _ _ _)
 refine wp_ret ?_
 exact end_one S11 rfl (res_cell S11 1 4 rfl strct_spot shp_st)

end Go.Proofs.Ytoeopdmaogmjhaa

/-
 Package aim: Child, by what holds through all that the caller may turn; At, Norm, Centre.
-/
namespace Go.Proofs.Ytoeopdmaogmjhaa
open Go Go.RowKit Nt
set_option linter.unusedSimpArgs false
set_option linter.unusedVariables false
set_option maxRecDepth 20000


abbrev APx (nD nL nT K : Nat) (D : List Int) (L : List (List Int)) (τ : List Int) (dn : Int) : Pr := AtE 5 (AM (Vv nD D K) (Mv nL L K) (Vv nT τ K) (Zv dn K))
/-- The pointer gets a name. -/
theorem sp_pa {φa ps pb pn pr : Pr} {nD nL nT K : Nat} {D : List Int} {L : List (List Int)} {τ : List Int} {dn : Int} (hφ : ∀ v w, φa v w → APx nD nL nT K D L τ dn v w) {B : Nat → Prop} {w : World} {u : Value} (h : Has B w (SP φa ps pb pn pr) u) : ∃ pa, Has B w (SP (AP pa nD nL nT K D L τ dn) ps pb pn pr) u := by
 obtain ⟨cs, rfl, hsz, hone, _⟩ := id h.now
 refine ⟨ofPart cs 0 1, fun w' e => ?_⟩
 obtain ⟨cs', e1, _, _, hp⟩ := h w' e
 cases e1
 refine ⟨cs, rfl, hsz, hone, fun j p hj => ?_⟩
 match j, hj with
 | 0, hj => simp only [List.getElem?_cons_zero, Option.some.injEq] at hj; subst hj; exact ⟨rfl, hφ _ _ (hp 0 _ rfl)⟩
 | j + 1, hj => exact hp (j + 1) p hj
theorem lfs_vn {vs : List Value} {sh : List Int} {Z : Int} {lo lo' k : Nat} {v : Value} {w : World} (lv : vs.length = k) (ls : sh.length = k) (hlo : lo ≤ lo') (hv : ∀ (i : Nat) u z, vs[i]? = some u → sh[i]? = some z → ZN z lo u w) (h : LF 2 (k + 1) (vs.map IS ++ [ZN Z]) lo' v w) : VN (k + 1) (sh ++ [Z]) lo v w := by
 obtain ⟨⟨p, c, e, l, b, a⟩, hf⟩ := h
 refine ⟨⟨p, c, e, by simp [ls], b, fun i φ hφ => ?_⟩, fun b o n c e' => Nat.le_trans hlo (hf b o n c e')⟩
 obtain ⟨ψ, hψ, rfl⟩ := map_get hφ
 obtain ⟨z, hz, rfl⟩ := map_get hψ
 rcases Nat.lt_or_ge i k with hi | hi
 ·rw [List.getElem?_append_left (by omega)] at hz
  obtain ⟨u, hu⟩ : ∃ u, vs[i]? = some u := ⟨_, List.getElem?_eq_getElem (by omega)⟩
  obtain ⟨b', o', u', e1, e2, e3, e4⟩ := a i (Is u) (by rw [List.getElem?_map, List.getElem?_append_left (by simp; omega), List.getElem?_map, hu]; rfl)
  have e5 : u' = u := e4
  subst e5
  exact ⟨b', o', u', e1, e2, e3, hv i _ z hu hz⟩
 ·have hlt := (List.getElem?_eq_some_iff.1 hz).1
  simp [ls] at hlt
  obtain rfl : i = k := by omega
  rw [List.getElem?_append_right (by omega), ls, Nat.sub_self] at hz
  cases hz
  obtain ⟨b', o', u', e1, e2, e3, e4⟩ := a i (ZN Z lo') (by rw [List.getElem?_map, List.getElem?_append_right (by simp; omega)]; simp [lv])
  exact ⟨b', o', u', e1, e2, e3, (fresh_zn Z).mono _ _ _ _ hlo e4⟩
/-- The next numerator, and what gathers beside it. -/
def nx (M D1 R : Int) : Int × Int := if rm M D1 = 0 then (fl M D1, R) else (M, R * D1)
theorem child_H {φa : Pr} {nD nL nT K : Nat} {D : List Int} {L : List (List Int)} {τ : List Int} {dn : Int} (hφ : ∀ v w, φa v w → APx nD nL nT K D L τ dn v w) (hD : nD ≤ 1048577) (hL : nL ≤ 1048576) (hT : nT ≤ 1048576) (hK : K ≤ 16777216) (lD : D.length = nD) (lL : L.length = nL) (lT : τ.length = nT)
  {k lo Kx Ks : Nat} {sh : List Int} {b N R X Z D0 D1 W M : Int} (hk : k < nL) (hnT : nT = nL) (hnD : nD = nL + 1) (ls : sh.length = k) (hr : ∀ j, j < nL → (L.getD j []).length = j) (hd0 : D1 ≠ 0) (dsh : Dl sh Ks) (hKs : Ks ≤ 67108864) (hb : (digs b.natAbs).length ≤ 134217728) (hN : (digs N.natAbs).length ≤ 134217728) (hR : (digs R.natAbs).length ≤ 134217728) (hKx : Kx ≤ 16777216)
  (eZ : X * dn - τ.getD (nL - 1 - k) 0 = Z) (eD0 : D.getD (nL - 1 - k) 0 = D0) (eD1 : D.getD (nL - 1 - k + 1) 0 = D1) (eW : Z * D1 + b = W) (eM : N * D0 + R * (W * W) = M)
  (B : Nat → Prop) (w : World) (u x : Value) (hlo : lo ≤ w.heap.size) (hB : ∀ k, B k → k < w.heap.size) (h : Has B w (SP φa (VN k sh lo) (ZN b lo) (ZN N lo) (ZN R lo)) u) (hx : Has B w (Zv X Kx) x) :
  Calls Try.prog 35 #[u, x] w fun e w' => ∃ r, e = .returned r ∧ Below w.heap.size w w' ∧ Has B w' (SP φa (VN (k + 1) (sh ++ [Z]) lo) (ZN (fB (sh ++ [Z]) L nL (k + 1)) lo) (ZN (nx M D1 R).1 lo) (ZN (nx M D1 R).2 lo)) r := by
 obtain ⟨cs, rfl, hsz, hone, _⟩ := id h.now
 have part : ∀ (j : Nat) p, ([(0, 1, φa), (1, 1, VN k sh lo), (2, 2, ZN b lo), (4, 2, ZN N lo), (6, 2, ZN R lo)] : List (Nat × Nat × Pr))[j]? = some p → Has B w p.2.2 (ofPart cs p.1 p.2.1) := fun j p hj w' e => by
  obtain ⟨cs', e1, _, _, hp'⟩ := h w' e
  cases e1
  exact hp' j p hj
 have hA : Has B w φa (ofPart cs 0 1) := part 0 _ rfl
 have hS : Has B w (VN k sh lo) (ofPart cs 1 1) := part 1 _ rfl
 have hbv : Has B w (ZN b lo) (ofPart cs 2 2) := part 2 _ rfl
 have hNv : Has B w (ZN N lo) (ofPart cs 4 2) := part 3 _ rfl
 have hRv : Has B w (ZN R lo) (ofPart cs 6 2) := part 4 _ rfl
 obtain ⟨vs, lv, hv, hpin⟩ := ar_pin (sz := 2) (φs := Zl sh lo) (by decide) (fun j φ hφ => by obtain ⟨z, _, rfl⟩ := zl_get hφ; exact cel_shp (by decide) shp_zn) (hS.imp (fun w h => lf_ar _ _ h))
 have hu : Hs w (SP (AP (ofPart cs 0 1) nD nL nT K D L τ dn) (Ar 2 k (Pl vs (Zl sh lo))) (Zv b 134217728) (Zv N 134217728) (PI (ofPart cs 6 2) (ZN R lo))) (.agg cs) := fun w' e => by
  have e' : Ev B w w' := e.mono (fun _ h => h.elim)
  refine ⟨cs, rfl, hsz, hone, fun j p hj => ?_⟩
  match j, hj with
  | 0, hj => simp only [List.getElem?_cons_zero, Option.some.injEq] at hj; subst hj; exact ⟨rfl, hφ _ _ (hA w' e')⟩
  | 1, hj => simp only [List.getElem?_cons_succ, List.getElem?_cons_zero, Option.some.injEq] at hj; subst hj; exact hpin w' e'
  | 2, hj => simp at hj; subst hj; exact zn_zv hb _ _ (hbv w' e')
  | 3, hj => simp at hj; subst hj; exact zn_zv hN _ _ (hNv w' e')
  | 4, hj => simp at hj; subst hj; exact ⟨rfl, hRv w' e'⟩
 have hx' : Hs w (Zv X Kx) x := hx.hs
 have fin : ∀ (N1 R1 : Int) (ρ : Nat → Pr), Fresh ρ → (∀ w'' v, Ev B w w'' → ρ w.heap.size v w'' → ZN R1 lo v w'') → ∀ e w', Gives (SPN (IS (ofPart cs 0 1)) (LF 2 (k + 1) (vs.map IS ++ [ZN Z])) (ZN (fB (sh ++ [Z]) L nL (k + 1))) (ZN N1) ρ) w e w' → ∃ r, e = .returned r ∧ Below w.heap.size w w' ∧ Has B w' (SP φa (VN (k + 1) (sh ++ [Z]) lo) (ZN (fB (sh ++ [Z]) L nL (k + 1)) lo) (ZN N1 lo) (ZN R1 lo)) r := by
  rintro N1 R1 ρ hF hρ e w' ⟨r, rfl, hbl, hr'⟩
  refine ⟨r, rfl, hbl, fun w'' e'' => ?_⟩
  have ev : Ev B w w'' := (Ev.of_below hbl).back (fun _ _ h => h) e''
  have hr'' := (fresh_sp (fresh_is (ofPart cs 0 1)) (fresh_plz (n := k + 1) (vs := vs) (Z := Z)) (fresh_zn _) (fresh_zn N1) hF).ev _ _ _ _ B hB hr' e''
  obtain ⟨ds, rfl, hs2, ho2, hp2⟩ := hr''
  refine ⟨ds, rfl, hs2, ho2, fun j p hj => ?_⟩
  match j, hj with
  | 0, hj =>
   simp only [List.getElem?_cons_zero, Option.some.injEq] at hj; subst hj
   have q : ofPart ds 0 1 = ofPart cs 0 1 := hp2 0 _ rfl
   have q2 := hA w'' ev
   show φa (ofPart ds 0 1) w''
   rw [q]
   exact q2
  | 1, hj =>
   simp at hj; subst hj
   exact lfs_vn lv ls hlo (fun i u' z h1 h2 => hv i u' _ h1 (by rw [List.getElem?_map, List.getElem?_map, h2]; rfl) w'' ev) (hp2 1 _ rfl)
  | 2, hj => simp at hj; subst hj; exact (fresh_zn _).mono _ _ _ _ hlo (hp2 2 _ rfl)
  | 3, hj => simp at hj; subst hj; exact (fresh_zn _).mono _ _ _ _ hlo (hp2 3 _ rfl)
  | 4, hj => simp at hj; subst hj; exact hρ w'' _ ev (hp2 4 _ rfl)
 by_cases hm : rm M D1 = 0
 ·rw [show nx M D1 R = (fl M D1, R) from if_pos hm]
  exact (chl_e w (ofPart cs 0 1) nD nL nT K D L τ dn hD hL hT hK lD lL lT (.agg cs) x k lo Ks 134217728 134217728 Kx sh vs (ofPart cs 6 2) b N R X Z D0 D1 W M (fl M D1) hu hx' hk hnT hnD ls lv hr hd0 dsh hKs (Nat.le_refl _) (Nat.le_refl _) hR hKx eZ eD0 eD1 eW eM hm rfl).mono (fin _ _ (IS _) (fresh_is _) (fun w'' v ev q => by have q' : v = _ := q; rw [q']; exact hRv w'' ev))
 ·rw [show nx M D1 R = (M, R * D1) from if_neg hm]
  exact (chl_o w (ofPart cs 0 1) nD nL nT K D L τ dn hD hL hT hK lD lL lT (.agg cs) x k lo Ks 134217728 134217728 Kx sh vs (ofPart cs 6 2) b N R X Z D0 D1 W M M hu hx' hk hnT hnD ls lv hr hd0 dsh hKs (Nat.le_refl _) (Nat.le_refl _) hR hKx eZ eD0 eD1 eW eM hm).mono (fin _ _ (ZN (R * D1)) (fresh_zn _) (fun w'' v ev q => (fresh_zn _).mono _ _ _ _ hlo q))
theorem shL_dl {x : List Int} {dn : Int} {τ : List Int} {n Kx K : Nat} (hx : Dl x Kx) (ht : Dl τ K) (hd : (digs dn.natAbs).length ≤ K) (m : Nat) : Dl (shL x dn τ n m) (Kx + K + 1) := fun i z hz => by
 have hi : i < m := by have := (List.getElem?_eq_some_iff.1 hz).1; rw [shL_len] at this; exact this
 rw [shL_get hi] at hz
 simp only [Option.some.injEq] at hz
 rw [← hz]
 exact digs_sub_len (by rw [Int.natAbs_mul]; exact digs_mul_len (dl_getD hx _) hd) (Nat.le_trans (dl_getD ht _) (by omega))
theorem shL_at {x : List Int} {dn : Int} {τ : List Int} {n m k : Nat} (hk : k < m) : (shL x dn τ n m).getD k 0 = x.getD k 0 * dn - τ.getD (n - 1 - k) 0 := by
 rw [List.getD_eq_getElem?_getD, shL_get hk]
 rfl
/-- A step takes a row more. -/
theorem nx_fS {x : List Int} {dn : Int} {τ D : List Int} {L : List (List Int)} {n m k : Nat} {D0 D1 W M : Int} (hk : k < m) (hm : m ≤ n) (eD0 : D.getD (n - 1 - k) 0 = D0) (eD1 : D.getD (n - 1 - k + 1) 0 = D1) (eW : (x.getD k 0 * dn - τ.getD (n - 1 - k) 0) * D1 + fB (shL x dn τ n k) L n k = W) (eM : (fS D (shL x dn τ n m) L n k).1 * D0 + (fS D (shL x dn τ n m) L n k).2 * (W * W) = M) :
  nx M D1 (fS D (shL x dn τ n m) L n k).2 = fS D (shL x dn τ n m) L n (k + 1) := by
 have e1 : fW D (shL x dn τ n m) L n k = W := by
  rw [← eW, fW, shL_at hk, eD1, fB, if_neg (by omega), fbL_congr (sh' := shL x dn τ n k) (fun j hj => by rw [shL_at (show j < m by omega), shL_at hj])]
 have e2 : fM D (shL x dn τ n m) L n k (fS D (shL x dn τ n m) L n k) = M := by rw [fM, e1, eD0, eM]
 rw [fS, e2, eD1, nx]
theorem fB_dl {sh : List Int} {L : List (List Int)} {Ks K n k : Nat} (hs : Dl sh Ks) (hL : Mdl L K) : (digs (fB sh L n k).natAbs).length ≤ Ks + K + k := by
 rw [fB]
 split
 ·rw [show (0 : Int).natAbs = 0 from rfl, digs_zero]; exact Nat.zero_le _
 ·have q := sumZ_len (fbL_dl hs hL n (n - 1 - k) k) k
  rw [List.take_of_length_le (by rw [fbL_len]; omega)] at q
  exact q
/-- Where the first k numbers of x lead. -/
abbrev SPk (φa : Pr) (nL : Nat) (D : List Int) (L : List (List Int)) (τ : List Int) (dn : Int) (x : List Int) (m lo k : Nat) : Pr := SP φa (VN k (shL x dn τ nL k) lo) (ZN (fB (shL x dn τ nL k) L nL k) lo) (ZN (fS D (shL x dn τ nL m) L nL k).1 lo) (ZN (fS D (shL x dn τ nL m) L nL k).2 lo)
theorem child_k {φa : Pr} {nD nL nT K : Nat} {D : List Int} {L : List (List Int)} {τ : List Int} {dn : Int} (hφ : ∀ v w, φa v w → APx nD nL nT K D L τ dn v w) (hD : nD ≤ 1048577) (hL : nL ≤ 1048576) (hT : nT ≤ 1048576) (hK : K ≤ 16777216) (lD : D.length = nD) (lL : L.length = nL) (lT : τ.length = nT) {k m lo Kx : Nat} {x : List Int} (hk : k < m) (hm : m ≤ nL) (hnT : nT = nL) (hnD : nD = nL + 1) (hr : ∀ j, j < nL → (L.getD j []).length = j) (hd0 : ∀ i, i < nL → D.getD (i + 1) 0 ≠ 0) (dx : Dl x Kx) (hKx : Kx ≤ 16777216)
  (hN : ∀ k, k ≤ m → (digs (fS D (shL x dn τ nL m) L nL k).1.natAbs).length ≤ 134217728) (hR : ∀ k, k ≤ m → (digs (fS D (shL x dn τ nL m) L nL k).2.natAbs).length ≤ 134217728)
  (B : Nat → Prop) (w : World) (u v : Value) (hlo : lo ≤ w.heap.size) (hB : ∀ k, B k → k < w.heap.size) (h : Has B w (SPk φa nL D L τ dn x m lo k) u) (hx : Has B w (Zv (x.getD k 0) Kx) v) :
  Calls Try.prog 35 #[u, v] w fun e w' => ∃ r, e = .returned r ∧ Below w.heap.size w w' ∧ Has B w' (SPk φa nL D L τ dn x m lo (k + 1)) r := by
 obtain ⟨_, _, _, _, _, ha, _⟩ := sp_at h.now
 obtain ⟨d1, d2, d3, d4⟩ := ap_dl ⟨rfl, hφ _ _ ha⟩
 have hsd := shL_dl (n := nL) dx d3 d4 k
 have key := child_H hφ hD hL hT hK lD lL lT (k := k) (lo := lo) (Kx := Kx) (Ks := 33554433) (sh := shL x dn τ nL k) (X := x.getD k 0) (by omega) hnT hnD (shL_len _ _ _ _ _) hr (hd0 (nL - 1 - k) (by omega)) (fun i z hz => Nat.le_trans (hsd i z hz) (by omega)) (by omega) (Nat.le_trans (fB_dl hsd d2) (by omega)) (hN k (by omega)) (hR k (by omega)) hKx rfl rfl rfl rfl rfl B w u v hlo hB h hx
 rw [nx_fS hk hm rfl rfl rfl rfl] at key
 exact key

theorem fB_0 {x : List Int} {dn : Int} {τ : List Int} {L : List (List Int)} {n : Nat} : fB (shL x dn τ n 0) L n 0 = 0 := by
 rw [fB]
 split
 ·rfl
 ·rfl

abbrev qvw1e0  : Rk := .box 54 (Is (.agg #[.pointer none, .slice none 0 0, .bool false, .slice none 0 0, .bool false, .slice none 0 0, .bool false, .slice none 0 0]))
abbrev qvw1e1 (w : World) (pa : Value) (nL : Nat) (D : List Int) (L : List (List Int)) (τ : List Int) (dn : Int) (m : Nat) (x : List Int) : Rk := .box 54 (SP (Is (pa)) ((VN m (shL x dn τ nL m)) w.heap.size) ((ZN (fB (shL x dn τ nL m) L nL m)) w.heap.size) ((ZN ((fS D (shL x dn τ nL m) L nL m).1)) w.heap.size) ((ZN ((fS D (shL x dn τ nL m) L nL m).2)) w.heap.size))
abbrev qvw1e2 (w : World) (pa : Value) (nD : Nat) (nL : Nat) (nT : Nat) (K : Nat) (D : List Int) (L : List (List Int)) (τ : List Int) (dn : Int) (m : Nat) (x : List Int) (k0 : Nat) : Rk := .box 54 (SP (AP pa nD nL nT K D L τ dn) ((VN (k0 + 1) (shL x dn τ nL (k0 + 1))) w.heap.size) ((ZN (fB (shL x dn τ nL (k0 + 1)) L nL (k0 + 1))) w.heap.size) ((ZN ((fS D (shL x dn τ nL m) L nL (k0 + 1)).1)) w.heap.size) ((ZN ((fS D (shL x dn τ nL m) L nL (k0 + 1)).2)) w.heap.size))
abbrev qvw1e3 (w : World) (pa : Value) (nD : Nat) (nL : Nat) (nT : Nat) (K : Nat) (D : List Int) (L : List (List Int)) (τ : List Int) (dn : Int) (m : Nat) (x : List Int) (k0 : Nat) : Rk := .box 54 (SP (AP pa nD nL nT K D L τ dn) ((VN k0 (shL x dn τ nL k0)) w.heap.size) ((ZN (fB (shL x dn τ nL k0) L nL k0)) w.heap.size) ((ZN ((fS D (shL x dn τ nL m) L nL k0).1)) w.heap.size) ((ZN ((fS D (shL x dn τ nL m) L nL k0).2)) w.heap.size))
set_option maxHeartbeats 2000000 in
theorem at_w (w : World) (pa : Value) (nD nL nT K : Nat) (D : List Int) (L : List (List Int)) (τ : List Int) (dn : Int) (hD : nD ≤ 1048577) (hL : nL ≤ 1048576) (hT : nT ≤ 1048576) (hK : K ≤ 16777216) (lD : D.length = nD) (lL : L.length = nL) (lT : τ.length = nT) (ha : Hs w (AP pa nD nL nT K D L τ dn) pa) (v : Value) (m Kx : Nat) (x : List Int) (hv : Hs w (Vv m x Kx) v) (lx : x.length = m) (hm : m ≤ nL) (hnT : nT = nL) (hnD : nD = nL + 1) (hr : ∀ j, j < nL → (L.getD j []).length = j) (hd0 : ∀ i, i < nL → D.getD (i + 1) 0 ≠ 0) (hKx : Kx ≤ 16777216) (hN : ∀ k, k ≤ m → (digs (fS D (shL x dn τ nL m) L nL k).1.natAbs).length ≤ 134217728) (hR : ∀ k, k ≤ m → (digs (fS D (shL x dn τ nL m) L nL k).2.natAbs).length ≤ 134217728) :
  Calls Try.prog 18 #[pa, v] w (Gives (SPN (IS (pa)) (VN m (shL x dn τ nL m)) (ZN (fB (shL x dn τ nL m) L nL m)) (ZN ((fS D (shL x dn τ nL m) L nL m).1)) (ZN ((fS D (shL x dn τ nL m) L nL m).2))) w) := by
 have dx := vv_dl hv.now
 refine calls_sta (sl := [(0, (AP pa nD nL nT K D L τ dn)), (1, (Vv m x Kx))]) Try.func18 rfl Try.ntmps18 (by simp) (args_cons rfl (ha) (args_cons rfl (hv) args_nil)) ?_
 intro a0 S0
 refine wq [.new (qvw1e0)] [.inl 0] [.inr 0, .inr 1] S0 ?_ ?_
 ·apply jj1
  ·exact owe_new rfl wA rfl rfl (fun ρ w => alloc_spot ρ _ w)
 intro _ a1 _ (S1 : Sta w 22 [(4, (qvw1e0))] [(0, (AP pa nD nL nT K D L τ dn)), (1, Vv m x Kx)] _ _ _)
 refine wq [.val (AP pa nD nL nT K D L τ dn), .val ((ZN (1)) w.heap.size), .val (SP (AP pa nD nL nT K D L τ dn) (Is (.slice none 0 0)) zI zI ((ZN (1)) w.heap.size)), .new (qvw1e0), .put (.inr 3) (.box 54 (SP (AP pa nD nL nT K D L τ dn) (Is (.slice none 0 0)) zI zI ((ZN (1)) w.heap.size)))] [.inr 0, .inl 3] [.inr 1] S1 ?_ ?_
 ·apply jj5
  ·exact mS 0 0
  ·exact cc1 wA (opnd_const _) (fresh_zn _) (g_zof (1) (by omega) (by omega))
  ·exact owe_build_sp0 rfl wA rfl (oO 0 8) ap_pt (oO 1 9) shp_zn rfl
  ·exact owe_new rfl wA rfl rfl (fun ρ w => alloc_spot ρ _ w)
  ·exact owe_put 3 rfl wA rfl (by kernel_rfl) rfl (oO 2 10) (stores_of strct_spot shp_s8 shp_st) rfl
 intro B2 a2 W2 (S2 : Sta w 22 [(4, (qvw1e0)), (5, (.box 54 (SP (AP pa nD nL nT K D L τ dn) (Is (.slice none 0 0)) zI zI ((ZN (1)) w.heap.size))))] [(1, Vv m x Kx)] _ _ _)
 refine wp_seq ?_
 replace S2 : Sta w 22 [(4, (qvw1e0)), (5, (.box 54 (SP (AP pa nD nL nT K D L τ dn) ((VN 0 (shL x dn τ nL 0)) w.heap.size) ((ZN (fB (shL x dn τ nL 0) L nL 0)) w.heap.size) ((ZN ((fS D (shL x dn τ nL m) L nL 0).1)) w.heap.size) ((ZN ((fS D (shL x dn τ nL m) L nL 0).2)) w.heap.size))))] [(1, Vv m x Kx)] B2 a2 W2 := S2.reboxS 1 rfl (sp_imp (fun v w h => h) nil_vn (fun v w h => by rw [fB_0]; exact zero_zn v w h) zero_zn (fun v w h => h))
 refine wq [.val (Vv m x Kx), .val (iV (m : Nat)), .val (iV 0)] [.inr 0, .inr 1] [.inl 0, .inl 1, .inl 2] S2 ?_ ?_
 ·apply jj3
  ·exact mS 0 1
  ·exact owe_len rfl wA rfl (oO 0 11) ar_len Try.underlying22 rfl
  ·exact mC
 intro B3 a3 _ (S3 : Sta w 22 [(4, (qvw1e0)), (5, (.box 54 (SP (AP pa nD nL nT K D L τ dn) ((VN 0 (shL x dn τ nL 0)) w.heap.size) ((ZN (fB (shL x dn τ nL 0) L nL 0)) w.heap.size) ((ZN ((fS D (shL x dn τ nL m) L nL 0).1)) w.heap.size) ((ZN ((fS D (shL x dn τ nL m) L nL 0).2)) w.heap.size))))] [(11, Vv m x Kx), (12, iV (m : Nat)), (13, iV 0)] _ _ _)
 refine wp_block ?_
 refine wp_loop_ghost (fun (k0 : Nat) a W => (k0 ≤ m) ∧ ∃ Bq, Sta w 22 [(4, (qvw1e0)), (5, (qvw1e3 w pa nD nL nT K D L τ dn m x k0))] [(11, Vv m x Kx), (12, iV (m : Nat)), (13, iV (k0 : Nat))] Bq a W) (fun (k0 : Nat) => m - k0) ?_ 0 ⟨Nat.zero_le _, B3, S3.sub [0, 1] [0, 1, 2]⟩
 rintro k0 a4 _ ⟨hcond, _, S4⟩
 by_cases hlt : k0 < m
 ·skip
  refine wq [kT] [.inr 0, .inr 1] [.inl 0, .inr 0, .inr 1, .inr 2] S4 ?_ ?_
  ·apply jj1
   ·exact b_lss_int_t wA (oS 2 13) (oS 1 12)
  intro B5 a5 W5 (S5 : Sta w 22 [(4, (qvw1e0)), (5, (qvw1e3 w pa nD nL nT K D L τ dn m x k0))] [(14, bT), (11, Vv m x Kx), (12, iV (m : Nat)), (13, iV (k0 : Nat))] _ _ _)
  refine wp_seq (wp_cond_true (S5.bool 0 14 rfl) (wp_skip (thenN (wp_seq (wp_block ?_)))))
  refine wq [.val (AtE 2 (Zv (x.getD k0 0) Kx)), .val (Zv (x.getD k0 0) Kx), .new (.box 29 zI), .put (.inr 2) (.box 29 (Zv (x.getD k0 0) Kx))] [.inr 0, .inr 1, .inl 2] [.inr 1, .inr 2, .inr 3] S5 ?_ ?_
  ·apply jj4
   ·exact owe_aindex rfl wA rfl idx_ints (oS 1 11) (oS 3 13) (zv_at (by omega)) rfl
   ·exact owe_aload rfl wA rfl ldr_int (by decide) (cel_shp (by decide) shp_zv) (oO 0 15) rfl
   ·exact owe_new rfl wA rfl rfl (fun ρ w => alloc_int ρ _ w)
   ·exact owe_put 2 rfl wA rfl (by kernel_rfl) rfl (oO 1 16) (stores_of strct_int shp_z0 shp_zv) rfl
  intro B6 a6 W6 (S6 : Sta w 22 [(4, (qvw1e0)), (5, (qvw1e3 w pa nD nL nT K D L τ dn m x k0)), (7, (.box 29 (Zv (x.getD k0 0) Kx)))] [(11, Vv m x Kx), (12, iV (m : Nat)), (13, iV (k0 : Nat))] _ _ _)
  refine wr [.val (SP (AP pa nD nL nT K D L τ dn) ((VN k0 (shL x dn τ nL k0)) w.heap.size) ((ZN (fB (shL x dn τ nL k0) L nL k0)) w.heap.size) ((ZN ((fS D (shL x dn τ nL m) L nL k0).1)) w.heap.size) ((ZN ((fS D (shL x dn τ nL m) L nL k0).2)) w.heap.size)), .val (Zv (x.getD k0 0) Kx), .val (SP (AP pa nD nL nT K D L τ dn) ((VN (k0 + 1) (shL x dn τ nL (k0 + 1))) w.heap.size) ((ZN (fB (shL x dn τ nL (k0 + 1)) L nL (k0 + 1))) w.heap.size) ((ZN ((fS D (shL x dn τ nL m) L nL (k0 + 1)).1)) w.heap.size) ((ZN ((fS D (shL x dn τ nL m) L nL (k0 + 1)).2)) w.heap.size)), .put (.inl 5) (qvw1e2 w pa nD nL nT K D L τ dn m x k0)] [.inr 0, .inr 1] [.inr 0, .inr 1, .inr 2] S6 ?_ ?_
  ·apply jj4
   ·exact lod 1 wA (loads_of strct_spot shp_st)
   ·exact lod 2 wA (loads_of strct_int shp_zv)
   ·exact owe_callB2 rfl wA rfl (oO 0 17) (oO 1 18) rfl (fun args w => by go_simp) (fun B' w' u' v' hlo' hB' h1 h2 => child_k ap_at hD hL hT hK lD lL lT hlt hm hnT hnD hr hd0 dx hKx hN hR B' w' u' v' hlo' hB' h1 h2)
   ·exact owe_set rfl wA rfl (k := 1) rfl (by kernel_rfl) (oO 2 19) (stores_of strct_spot shp_st shp_st) rfl
  intro _ a7 _ (S7 : Sta w 22 [(4, (qvw1e0)), (5, (qvw1e2 w pa nD nL nT K D L τ dn m x k0))] [(11, Vv m x Kx), (12, iV (m : Nat)), (13, iV (k0 : Nat))] _ _ _)
  refine inBlkN (thenN ?_)
  refine wr [.val (iV (k0 + 1 : Nat)), .val (iV (k0 + 1 : Nat))] [.inr 0, .inr 1] [.inl 1, .inr 0, .inr 1] S7 ?_ ?_
  ·apply jj2
   ·exact b_add_int wA (oS 2 13) (opnd_const _)
   ·exact mO 0 20
  intro B8 a8 _ (S8 : Sta w 22 [(4, (qvw1e0)), (5, (qvw1e2 w pa nD nL nT K D L τ dn m x k0))] [(13, iV (k0 + 1 : Nat)), (11, Vv m x Kx), (12, iV (m : Nat))] _ _ _)
  refine thenN ?_
  exact ⟨k0 + 1, ⟨by omega, B8, S8.sub [0, 1] [1, 2, 0]⟩, by omega⟩
 ·have ek : k0 = m := by omega
  rw [ek] at S4
  refine wq [kF] [.inr 0, .inr 1] [.inl 0, .inr 0, .inr 1, .inr 2] S4 ?_ ?_
  ·apply jj1
   ·exact b_lss_int_f wA (oS 2 13) (oS 1 12)
  intro B5 a5 W5 (S5 : Sta w 22 [(4, (qvw1e0)), (5, (.box 54 (SP (AP pa nD nL nT K D L τ dn) ((VN m (shL x dn τ nL m)) w.heap.size) ((ZN (fB (shL x dn τ nL m) L nL m)) w.heap.size) ((ZN ((fS D (shL x dn τ nL m) L nL m).1)) w.heap.size) ((ZN ((fS D (shL x dn τ nL m) L nL m).2)) w.heap.size))))] [(14, bF), (11, Vv m x Kx), (12, iV (m : Nat)), (13, iV (m : Nat))] _ _ _)
  refine wp_seq (wp_cond_false (S5.bool 0 14 rfl) (wp_exit (thenX (thenX (inBlkE (thenN ?_))))))
  replace S5 : Sta w 22 [(4, (qvw1e0)), (5, (qvw1e1 w pa nL D L τ dn m x))] [(14, bF), (11, Vv m x Kx), (12, iV (m : Nat)), (13, iV (m : Nat))] B5 a5 W5 := S5.reboxS 1 rfl (sp_imp ap_is (fun v w h => h) (fun v w h => h) (fun v w h => h) (fun v w h => h))
  refine wq [.val (SP (Is (pa)) ((VN m (shL x dn τ nL m)) w.heap.size) ((ZN (fB (shL x dn τ nL m) L nL m)) w.heap.size) ((ZN ((fS D (shL x dn τ nL m) L nL m).1)) w.heap.size) ((ZN ((fS D (shL x dn τ nL m) L nL m).2)) w.heap.size)), .put (.inl 4) (qvw1e1 w pa nL D L τ dn m x)] [.inr 0, .inr 1] [.inr 1, .inr 2, .inr 3] S5 ?_ ?_
  ·apply jj2
   ·exact lod 1 wA (loads_of strct_spot shp_st)
   ·exact owe_set rfl wA rfl (k := 0) rfl (by kernel_rfl) (oO 0 21) (stores_of strct_spot shp_s8 shp_st) rfl
  intro B6 a6 W6 (S6 : Sta w 22 [(4, (qvw1e1 w pa nL D L τ dn m x)), (5, (qvw1e1 w pa nL D L τ dn m x))] [(11, Vv m x Kx), (12, iV (m : Nat)), (13, iV (m : Nat))] _ _ _)
  refine wp_ret ?_
  exact end_one S6 rfl (res_cell S6 0 4 rfl strct_spot shp_st)

theorem at_H {nD nL nT K : Nat} {D : List Int} {L : List (List Int)} {τ : List Int} {dn : Int} (hD : nD ≤ 1048577) (hL : nL ≤ 1048576) (hT : nT ≤ 1048576) (hK : K ≤ 16777216) (lD : D.length = nD) (lL : L.length = nL) (lT : τ.length = nT) {lo m Kx : Nat} {x : List Int} (lx : x.length = m) (hm : m ≤ nL) (hnT : nT = nL) (hnD : nD = nL + 1) (hr : ∀ j, j < nL → (L.getD j []).length = j) (hd0 : ∀ i, i < nL → D.getD (i + 1) 0 ≠ 0) (hKx : Kx ≤ 16777216) (hN : ∀ k, k ≤ m → (digs (fS D (shL x dn τ nL m) L nL k).1.natAbs).length ≤ 134217728) (hR : ∀ k, k ≤ m → (digs (fS D (shL x dn τ nL m) L nL k).2.natAbs).length ≤ 134217728)
  (B : Nat → Prop) (w : World) (u v : Value) (hlo : lo ≤ w.heap.size) (hB : ∀ k, B k → k < w.heap.size) (h : Has B w (APx nD nL nT K D L τ dn) u) (hv : Has B w (Vv m x Kx) v) :
  Calls Try.prog 18 #[u, v] w fun e w' => ∃ r, e = .returned r ∧ Below w.heap.size w w' ∧ Has B w' (SPk (APx nD nL nT K D L τ dn) nL D L τ dn x m lo m) r := by
 have ha : Hs w (AP u nD nL nT K D L τ dn) u := fun w' e => ⟨rfl, h w' (e.mono (fun _ h => h.elim))⟩
 refine (at_w w u nD nL nT K D L τ dn hD hL hT hK lD lL lT ha v m Kx x hv.hs lx hm hnT hnD hr hd0 hKx hN hR).mono ?_
 rintro e w' ⟨r, rfl, hbl, hr'⟩
 refine ⟨r, rfl, hbl, fun w'' e'' => ?_⟩
 have ev : Ev B w w'' := (Ev.of_below hbl).back (fun _ _ h => h) e''
 have hF := fresh_sp (fresh_is u) (fresh_vn (n := m) (zs := shL x dn τ nL m)) (fresh_zn (fB (shL x dn τ nL m) L nL m)) (fresh_zn (fS D (shL x dn τ nL m) L nL m).1) (fresh_zn (fS D (shL x dn τ nL m) L nL m).2)
 obtain ⟨ds, rfl, hs2, ho2, hp2⟩ := hF.mono _ lo _ _ hlo (hF.ev _ _ _ _ B hB hr' e'')
 refine ⟨ds, rfl, hs2, ho2, fun j p hj => ?_⟩
 match j, hj with
 | 0, hj =>
  simp only [List.getElem?_cons_zero, Option.some.injEq] at hj; subst hj
  have q : ofPart ds 0 1 = u := hp2 0 _ rfl
  show APx nD nL nT K D L τ dn (ofPart ds 0 1) w''
  rw [q]
  exact h w'' ev
 | j + 1, hj => exact hp2 (j + 1) p hj

set_option maxHeartbeats 2000000 in
theorem snm_l (w : World) (pa : Value) (nD nL nT K : Nat) (D : List Int) (L : List (List Int)) (τ : List Int) (dn : Int) (hD : nD ≤ 1048577) (hL : nL ≤ 1048576) (hT : nT ≤ 1048576) (hK : K ≤ 16777216) (lD : D.length = nD) (lL : L.length = nL) (lT : τ.length = nT) (u : Value) (k lo Ks KB KN KR : Nat) (sh : List Int) (b N R D1 : Int) (vn : Value) (h : Hs w (SP (AP pa nD nL nT K D L τ dn) (Vv k sh Ks) (Zv b KB) (PI vn (ZN N lo)) (Zv R KR)) u) (hk : k ≤ nL) (ls : sh.length = k) (hnT : nT = nL) (hnD : nD = nL + 1) (hN : (digs N.natAbs).length ≤ KN) (hKR : KR ≤ 134217728) (eD : D.getD (nL - k) 0 = D1) :
  Calls Try.prog 19 #[u] w (Gives (PRF (IS (vn)) (ZN ((dn * dn) * (R * D1)))) w) := by
 obtain ⟨_, _, _, _, _, ha, _, _, _, hRv⟩ := sp_at h.now
 have hamd := ap_dl ha
 have hp1 : (digs D1.natAbs).length ≤ K := by rw [← eD]; exact dl_getD hamd.1 _
 have hpR := zv_dlR hRv
 have q1 : (digs (dn * dn).natAbs).length ≤ 33554432 := by rw [Int.natAbs_mul]; exact Nat.le_trans (digs_mul_len hamd.2.2.2 hamd.2.2.2) (by omega)
 have q2 : (digs (R * D1).natAbs).length ≤ 150994944 := by rw [Int.natAbs_mul]; exact Nat.le_trans (digs_mul_len hpR hp1) (by omega)
 refine calls_sta (sl := [(0, (SP (AP pa nD nL nT K D L τ dn) (Vv k sh Ks) (Zv b KB) (PI vn (ZN N lo)) (Zv R KR)))]) Try.func19 rfl Try.ntmps19 (by simp) (args_cons rfl (h) args_nil) ?_
 intro a0 S0
 refine wq [.new (.box 54 (SP (AP pa nD nL nT K D L τ dn) (Vv k sh Ks) (Zv b KB) (PI vn (ZN N lo)) (Zv R KR))), .new (.box 32 zR)] [.inl 0, .inl 1] [] S0 ?_ ?_
 ·apply jj2
  ·exact owe_box rfl wA rfl (oS 0 0) rfl (fun ρ w h => box_spot shp_st ρ _ _ w h)
  ·exact owe_new rfl wA rfl rfl (fun ρ w => alloc_rat ρ _ w)
 intro _ a1 _ (S1 : Sta w 34 [(1, (.box 54 (SP (AP pa nD nL nT K D L τ dn) (Vv k sh Ks) (Zv b KB) (PI vn (ZN N lo)) (Zv R KR)))), (2, (.box 32 zR))] [] _ _ _)
 refine wq [.val (Part a1 1 0), .val (AP pa nD nL nT K D L τ dn), .val (AP pa nD nL nT K D L τ dn), .val (AtE 2 (Zv dn K)), .val (Zv dn K), .val (Part a1 1 0), .val (AP pa nD nL nT K D L τ dn), .val (AP pa nD nL nT K D L τ dn), .val (AtE 2 (Zv dn K)), .val (Zv dn K), .val ((ZN (dn * dn)) w.heap.size), .new (.box 29 zI), .put (.inr 11) (.box 29 ((ZN (dn * dn)) w.heap.size))] [.inr 0, .inr 1, .inl 11] [] S1 ?_ ?_
 ·repeat' refine And.intro ?_ ?_
  ·trivial
  ·exact owe_part rfl wA rfl (k := 0) rfl (by kernel_rfl) rfl (fun ρ w b h => part_spot0 ρ _ _ w b 0 h)
  ·exact owe_pload rfl wA rfl (oO 0 4) (k := 0) rfl (by kernel_rfl) rfl (fun ρ w b u h1 h2 h3 => pload_st ldr_aimp (k := 0) rfl (by decide) (by decide) ρ _ _ w b u h1 h2 h3)
  ·exact owe_ptnil rfl wA rfl (oO 1 5) ap_pt rfl
  ·exact owe_apart (d := 3) rfl wA rfl ((oO 2 6).imp ap_at) (fun ρ w b k h => part_aim2 ρ _ _ w b k h) am_p2 rfl
  ·exact owe_aload rfl wA rfl ldr_int (by decide) (cel_shp (by decide) shp_zv) (oO 3 7) rfl
  ·exact owe_part rfl wA rfl (k := 0) rfl (by kernel_rfl) rfl (fun ρ w b h => part_spot0 ρ _ _ w b 0 h)
  ·exact owe_pload rfl wA rfl (oO 5 9) (k := 0) rfl (by kernel_rfl) rfl (fun ρ w b u h1 h2 h3 => pload_st ldr_aimp (k := 0) rfl (by decide) (by decide) ρ _ _ w b u h1 h2 h3)
  ·exact owe_ptnil rfl wA rfl (oO 6 10) ap_pt rfl
  ·exact owe_apart (d := 3) rfl wA rfl ((oO 7 11).imp ap_at) (fun ρ w b k h => part_aim2 ρ _ _ w b k h) am_p2 rfl
  ·exact owe_aload rfl wA rfl ldr_int (by decide) (cel_shp (by decide) shp_zv) (oO 8 12) rfl
  ·exact cc2 wA (qO 4 8 rfl) (qO 9 13 rfl) (fresh_zn _) (fun w u v h1 h2 => g_zmul (by omega) w u v ((fun _ _ h => h) _ _ h1) ((fun _ _ h => h) _ _ h2))
  ·exact owe_new rfl wA rfl rfl (fun ρ w => alloc_int ρ _ w)
  ·exact owe_put 11 rfl wA rfl (by kernel_rfl) rfl (oO 10 14) (stores_of strct_int shp_z0 shp_zn) rfl
 intro _ a2 _ (S2 : Sta w 34 [(1, (.box 54 (SP (AP pa nD nL nT K D L τ dn) (Vv k sh Ks) (Zv b KB) (PI vn (ZN N lo)) (Zv R KR)))), (2, (.box 32 zR)), (3, (.box 29 ((ZN (dn * dn)) w.heap.size)))] [] _ _ _)
 refine wq [.val (Part a2 1 4), .val (PI vn (ZN N lo)), .val ((ZN (dn * dn)) w.heap.size), .val (Part a2 1 6), .val (Zv R KR), .val (Part a2 1 0), .val (AP pa nD nL nT K D L τ dn), .val (AP pa nD nL nT K D L τ dn), .val (AtE 2 (SF [(Vv nD D K), (Mv nL L K)])), .val (AtE 1 (Vv nD D K)), .val (Vv nD D K), .val (SP (AP pa nD nL nT K D L τ dn) (Vv k sh Ks) (Zv b KB) (PI vn (ZN N lo)) (Zv R KR)), .val (iV ((nL : Int) - (k : Int) - 1)), .val (iV ((nL - k : Nat) : Int)), .val (AtE 2 (Zv D1 K)), .val (Zv D1 K), .val ((ZN (R * D1)) w.heap.size), .val ((ZN ((dn * dn) * (R * D1))) w.heap.size), .val (PR (PI vn (ZN N lo)) ((ZN ((dn * dn) * (R * D1))) w.heap.size)), .put (.inl 2) (.box 32 (PR (PI vn (ZN N lo)) ((ZN ((dn * dn) * (R * D1))) w.heap.size)))] [.inr 0, .inr 1] [] S2 ?_ ?_
 ·repeat' refine And.intro ?_ ?_
  ·trivial
  ·exact owe_part rfl wA rfl (k := 0) rfl (by kernel_rfl) rfl (fun ρ w b h => part_spot3 ρ _ _ w b 0 h)
  ·exact owe_pload rfl wA rfl (oO 0 15) (k := 0) rfl (by kernel_rfl) rfl (fun ρ w b u h1 h2 h3 => pload_st ldr_int (k := 3) rfl (by decide) (by decide) ρ _ _ w b u h1 h2 h3)
  ·exact lod 2 wA (loads_of strct_int shp_zn)
  ·exact owe_part rfl wA rfl (k := 0) rfl (by kernel_rfl) rfl (fun ρ w b h => part_spot4 ρ _ _ w b 0 h)
  ·exact owe_pload rfl wA rfl (oO 3 18) (k := 0) rfl (by kernel_rfl) rfl (fun ρ w b u h1 h2 h3 => pload_st ldr_int (k := 4) rfl (by decide) (by decide) ρ _ _ w b u h1 h2 h3)
  ·exact owe_part rfl wA rfl (k := 0) rfl (by kernel_rfl) rfl (fun ρ w b h => part_spot0 ρ _ _ w b 0 h)
  ·exact owe_pload rfl wA rfl (oO 5 20) (k := 0) rfl (by kernel_rfl) rfl (fun ρ w b u h1 h2 h3 => pload_st ldr_aimp (k := 0) rfl (by decide) (by decide) ρ _ _ w b u h1 h2 h3)
  ·exact owe_ptnil rfl wA rfl (oO 6 21) ap_pt rfl
  ·exact owe_apart (d := 0) rfl wA rfl ((oO 7 22).imp ap_at) (fun ρ w b k h => part_aimD ρ _ _ w b k h) am_p0 rfl
  ·exact owe_apart (d := 0) rfl wA rfl (oO 8 23) (fun ρ w b k h => part_gsoD ρ _ _ w b k h) (sf_pp (f := 0) rfl) rfl
  ·exact owe_aload rfl wA rfl ldr_row1 (by decide) cel_vv (oO 9 24) rfl
  ·exact lod 0 wA (loads_of strct_spot shp_st)
  ·exact ch1 wA ((qO 11 26 rfl).imp (sp_imp (fun v w h => h) (fun v w h => h) (fun v w h => h) (piz_zv hN) (fun v w h => h))) (fresh_is _) (fun w u0 h0 => (srw_w w pa nD nL nT K D L τ dn hD hL hT hK lD lL lT u0 _ _ _ _ _ _ _ _ _ h0 hk ls _ rfl))
  ·exact b_add_int wA (oO 12 27) (opnd_const _)
  ·exact owe_aindex rfl wA rfl idx_ints (oO 10 25) (oO 13 28) (by rw [← eD]; exact zv_at (by omega)) rfl
  ·exact owe_aload rfl wA rfl ldr_int (by decide) (cel_shp (by decide) shp_zv) (oO 14 29) rfl
  ·exact cc2 wA (qO 4 19 rfl) (qO 15 30 rfl) (fresh_zn _) (fun w u v h1 h2 => g_zmul (by omega) w u v ((fun _ _ h => h) _ _ h1) ((fun _ _ h => h) _ _ h2))
  ·exact cc2 wA (qO 2 17 rfl) (qO 16 31 rfl) (fresh_zn _) (fun w u v h1 h2 => g_zmul (by omega) w u v ((zn_zv q1) _ _ h1) ((zn_zv q2) _ _ h2))
  ·exact owe_build2 rfl wA rfl (oO 1 16) (oO 17 32) shp_piz shp_zn rfl
  ·exact owe_set rfl wA rfl (k := 1) rfl (by kernel_rfl) (oO 18 33) (stores_of strct_rat shp_r0 (shp_pr shp_piz shp_zn)) rfl
 intro _ a3 _ (S3 : Sta w 34 [(1, (.box 54 (SP (AP pa nD nL nT K D L τ dn) (Vv k sh Ks) (Zv b KB) (PI vn (ZN N lo)) (Zv R KR)))), (2, (.box 32 (PR (PI vn (ZN N lo)) ((ZN ((dn * dn) * (R * D1))) w.heap.size))))] [] _ _ _)
 refine wp_ret ?_
 exact end_one S3 rfl (by obtain ⟨v, h1, h2⟩ := res_cell S3 1 2 rfl strct_rat (shp_pr shp_piz shp_zn); exact ⟨v, h1, pr_imp ap_is (fun _ _ h => h) _ _ h2⟩)

theorem norm_H {φa : Pr} {nD nL nT K : Nat} {D : List Int} {L : List (List Int)} {τ : List Int} {dn : Int} (hφ : ∀ v w, φa v w → APx nD nL nT K D L τ dn v w) (hD : nD ≤ 1048577) (hL : nL ≤ 1048576) (hT : nT ≤ 1048576) (hK : K ≤ 16777216) (lD : D.length = nD) (lL : L.length = nL) (lT : τ.length = nT) {k lo Ks : Nat} {sh : List Int} {b N R : Int} (hk : k ≤ nL) (ls : sh.length = k) (hnT : nT = nL) (hnD : nD = nL + 1) (dsh : Dl sh Ks) (hR : (digs R.natAbs).length ≤ 134217728)
  (B : Nat → Prop) (w : World) (u : Value) (hlo : lo ≤ w.heap.size) (hB : ∀ k, B k → k < w.heap.size) (h : Has B w (SP φa (VN k sh lo) (ZN b lo) (ZN N lo) (ZN R lo)) u) :
  Calls Try.prog 19 #[u] w fun e w' => ∃ r, e = .returned r ∧ Below w.heap.size w w' ∧ Has B w' (PR (ZN N lo) (ZN ((dn * dn) * (R * D.getD (nL - k) 0)) lo)) r := by
 obtain ⟨cs, rfl, hsz, hone, _⟩ := id h.now
 have part : ∀ (j : Nat) p, ([(0, 1, φa), (1, 1, VN k sh lo), (2, 2, ZN b lo), (4, 2, ZN N lo), (6, 2, ZN R lo)] : List (Nat × Nat × Pr))[j]? = some p → Has B w p.2.2 (ofPart cs p.1 p.2.1) := fun j p hj w' e => by
  obtain ⟨cs', e1, _, _, hp'⟩ := h w' e
  cases e1
  exact hp' j p hj
 have hNv : Has B w (ZN N lo) (ofPart cs 4 2) := part 3 _ rfl
 have hu : Hs w (SP (AP (ofPart cs 0 1) nD nL nT K D L τ dn) (Vv k sh Ks) (Zv b (digs b.natAbs).length) (PI (ofPart cs 4 2) (ZN N lo)) (Zv R 134217728)) (.agg cs) := fun w' e => by
  have e' : Ev B w w' := e.mono (fun _ h => h.elim)
  refine ⟨cs, rfl, hsz, hone, fun j p hj => ?_⟩
  match j, hj with
  | 0, hj => simp only [List.getElem?_cons_zero, Option.some.injEq] at hj; subst hj; exact ⟨rfl, hφ _ _ (part 0 _ rfl w' e')⟩
  | 1, hj => simp only [List.getElem?_cons_succ, List.getElem?_cons_zero, Option.some.injEq] at hj; subst hj; exact vn_vv dsh _ _ (part 1 _ rfl w' e')
  | 2, hj => simp at hj; subst hj; exact zn_zv (Nat.le_refl _) _ _ (part 2 _ rfl w' e')
  | 3, hj => simp at hj; subst hj; exact ⟨rfl, hNv w' e'⟩
  | 4, hj => simp at hj; subst hj; exact zn_zv hR _ _ (part 4 _ rfl w' e')
 refine (snm_l w (ofPart cs 0 1) nD nL nT K D L τ dn hD hL hT hK lD lL lT (.agg cs) k lo Ks _ (digs N.natAbs).length 134217728 sh b N R _ (ofPart cs 4 2) hu hk ls hnT hnD (Nat.le_refl _) (Nat.le_refl _) rfl).mono ?_
 rintro e w' ⟨r, rfl, hbl, hr⟩
 refine ⟨r, rfl, hbl, fun w'' e'' => ?_⟩
 have ev : Ev B w w'' := (Ev.of_below hbl).back (fun _ _ h => h) e''
 obtain ⟨x0, x1, y0, y1, rfl, h1, h2⟩ := (fresh_prf (fresh_is (ofPart cs 4 2)) (fresh_zn _)).ev _ _ _ _ B hB hr e''
 have h1' : (.agg #[x0, x1] : Value) = ofPart cs 4 2 := h1
 exact ⟨x0, x1, y0, y1, rfl, by rw [h1']; exact hNv w'' ev, (fresh_zn _).mono _ _ _ _ hlo h2⟩

set_option maxHeartbeats 2000000 in
theorem sct_w (w : World) (pa : Value) (nD nL nT K : Nat) (D : List Int) (L : List (List Int)) (τ : List Int) (dn : Int) (hD : nD ≤ 1048577) (hL : nL ≤ 1048576) (hT : nT ≤ 1048576) (hK : K ≤ 16777216) (lD : D.length = nD) (lL : L.length = nL) (lT : τ.length = nT) (u : Value) (k Ks KB KN KR : Nat) (sh : List Int) (b N R : Int) (h : Hs w (SP (AP pa nD nL nT K D L τ dn) (Vv k sh Ks) (Zv b KB) (Zv N KN) (Zv R KR)) u) (hk : k < nL) (ls : sh.length = k) (hnT : nT = nL) (hnD : nD = nL + 1) (T0 D1 : Int) (eT : τ.getD (nL - 1 - k) 0 = T0) (eD : D.getD (nL - 1 - k + 1) 0 = D1) (hKB : KB ≤ 134217728) :
  Calls Try.prog 21 #[u] w (Gives (PRF (ZN (T0 * D1 - b)) (ZN (dn * D1))) w) := by
 obtain ⟨_, _, _, _, _, ha, _, _, _, _⟩ := sp_at h.now
 have hamd := ap_dl ha
 have hp1 : (digs D1.natAbs).length ≤ K := by rw [← eD]; exact dl_getD hamd.1 _
 have hpT : (digs T0.natAbs).length ≤ K := by rw [← eT]; exact dl_getD hamd.2.2.1 _
 have q1 : (digs (T0 * D1).natAbs).length ≤ 33554432 := by rw [Int.natAbs_mul]; exact Nat.le_trans (digs_mul_len hpT hp1) (by omega)
 refine calls_sta (sl := [(0, (SP (AP pa nD nL nT K D L τ dn) (Vv k sh Ks) (Zv b KB) (Zv N KN) (Zv R KR)))]) Try.func21 rfl Try.ntmps21 (by simp) (args_cons rfl (h) args_nil) ?_
 intro a0 S0
 refine wq [.new (.box 54 (SP (AP pa nD nL nT K D L τ dn) (Vv k sh Ks) (Zv b KB) (Zv N KN) (Zv R KR))), .new (.box 32 zR)] [.inl 0, .inl 1] [] S0 ?_ ?_
 ·apply jj2
  ·exact owe_box rfl wA rfl (oS 0 0) rfl (fun ρ w h => box_spot shp_st ρ _ _ w h)
  ·exact owe_new rfl wA rfl rfl (fun ρ w => alloc_rat ρ _ w)
 intro _ a1 _ (S1 : Sta w 39 [(1, (.box 54 (SP (AP pa nD nL nT K D L τ dn) (Vv k sh Ks) (Zv b KB) (Zv N KN) (Zv R KR)))), (2, (.box 32 zR))] [] _ _ _)
 refine wq [.val (Part a1 1 0), .val (AP pa nD nL nT K D L τ dn), .val (AP pa nD nL nT K D L τ dn), .val (AtE 2 (SF [(Vv nD D K), (Mv nL L K)])), .val (AtE 1 (Vv nD D K)), .val (Vv nD D K), .val (SP (AP pa nD nL nT K D L τ dn) (Vv k sh Ks) (Zv b KB) (Zv N KN) (Zv R KR)), .val (iV ((nL - 1 - k : Nat) : Int)), .val (iV ((nL - 1 - k + 1 : Nat) : Int)), .val (AtE 2 (Zv D1 K)), .val (Zv D1 K), .new (.box 29 zI), .put (.inr 11) (.box 29 (Zv D1 K))] [.inr 0, .inr 1, .inl 11] [] S1 ?_ ?_
 ·repeat' refine And.intro ?_ ?_
  ·trivial
  ·exact owe_part rfl wA rfl (k := 0) rfl (by kernel_rfl) rfl (fun ρ w b h => part_spot0 ρ _ _ w b 0 h)
  ·exact owe_pload rfl wA rfl (oO 0 5) (k := 0) rfl (by kernel_rfl) rfl (fun ρ w b u h1 h2 h3 => pload_st ldr_aimp (k := 0) rfl (by decide) (by decide) ρ _ _ w b u h1 h2 h3)
  ·exact owe_ptnil rfl wA rfl (oO 1 6) ap_pt rfl
  ·exact owe_apart (d := 0) rfl wA rfl ((oO 2 7).imp ap_at) (fun ρ w b k h => part_aimD ρ _ _ w b k h) am_p0 rfl
  ·exact owe_apart (d := 0) rfl wA rfl (oO 3 8) (fun ρ w b k h => part_gsoD ρ _ _ w b k h) (sf_pp (f := 0) rfl) rfl
  ·exact owe_aload rfl wA rfl ldr_row1 (by decide) cel_vv (oO 4 9) rfl
  ·exact lod 0 wA (loads_of strct_spot shp_st)
  ·exact ch1 wA (qO 6 11 rfl) (fresh_is _) (fun w u0 h0 => (srw_w w pa nD nL nT K D L τ dn hD hL hT hK lD lL lT u0 _ _ _ _ _ _ _ _ _ h0 (by omega) ls ((nL - 1 - k : Nat) : Int) (by omega)))
  ·exact b_add_int wA (oO 7 12) (opnd_const _)
  ·exact owe_aindex rfl wA rfl idx_ints (oO 5 10) (oO 8 13) (by rw [← eD]; exact zv_at (by omega)) rfl
  ·exact owe_aload rfl wA rfl ldr_int (by decide) (cel_shp (by decide) shp_zv) (oO 9 14) rfl
  ·exact owe_new rfl wA rfl rfl (fun ρ w => alloc_int ρ _ w)
  ·exact owe_put 11 rfl wA rfl (by kernel_rfl) rfl (oO 10 15) (stores_of strct_int shp_z0 shp_zv) rfl
 intro _ a2 _ (S2 : Sta w 39 [(1, (.box 54 (SP (AP pa nD nL nT K D L τ dn) (Vv k sh Ks) (Zv b KB) (Zv N KN) (Zv R KR)))), (2, (.box 32 zR)), (3, (.box 29 (Zv D1 K)))] [] _ _ _)
 refine wq [.val (Part a2 1 0), .val (AP pa nD nL nT K D L τ dn), .val (AP pa nD nL nT K D L τ dn), .val (AtE 1 (Vv nT τ K)), .val (Vv nT τ K), .val (SP (AP pa nD nL nT K D L τ dn) (Vv k sh Ks) (Zv b KB) (Zv N KN) (Zv R KR)), .val (iV ((nL - 1 - k : Nat) : Int)), .val (AtE 2 (Zv T0 K)), .val (Zv T0 K), .val (Zv D1 K), .val ((ZN (T0 * D1)) w.heap.size), .val (Part a2 1 2), .val (Zv b KB), .val ((ZN ((T0 * D1) - b)) w.heap.size), .new (.box 29 zI), .put (.inr 14) (.box 29 ((ZN ((T0 * D1) - b)) w.heap.size))] [.inr 0, .inr 1, .inr 2, .inl 14] [] S2 ?_ ?_
 ·repeat' refine And.intro ?_ ?_
  ·trivial
  ·exact owe_part rfl wA rfl (k := 0) rfl (by kernel_rfl) rfl (fun ρ w b h => part_spot0 ρ _ _ w b 0 h)
  ·exact owe_pload rfl wA rfl (oO 0 16) (k := 0) rfl (by kernel_rfl) rfl (fun ρ w b u h1 h2 h3 => pload_st ldr_aimp (k := 0) rfl (by decide) (by decide) ρ _ _ w b u h1 h2 h3)
  ·exact owe_ptnil rfl wA rfl (oO 1 17) ap_pt rfl
  ·exact owe_apart (d := 2) rfl wA rfl ((oO 2 18).imp ap_at) (fun ρ w b k h => part_aim1 ρ _ _ w b k h) am_p1 rfl
  ·exact owe_aload rfl wA rfl ldr_row1 (by decide) cel_vv (oO 3 19) rfl
  ·exact lod 0 wA (loads_of strct_spot shp_st)
  ·exact ch1 wA (qO 5 21 rfl) (fresh_is _) (fun w u0 h0 => (srw_w w pa nD nL nT K D L τ dn hD hL hT hK lD lL lT u0 _ _ _ _ _ _ _ _ _ h0 (by omega) ls ((nL - 1 - k : Nat) : Int) (by omega)))
  ·exact owe_aindex rfl wA rfl idx_ints (oO 4 20) (oO 6 22) (by rw [← eT]; exact zv_at (by omega)) rfl
  ·exact owe_aload rfl wA rfl ldr_int (by decide) (cel_shp (by decide) shp_zv) (oO 7 23) rfl
  ·exact lod 2 wA (loads_of strct_int shp_zv)
  ·exact cc2 wA (qO 8 24 rfl) (qO 9 25 rfl) (fresh_zn _) (fun w u v h1 h2 => g_zmul (by omega) w u v ((fun _ _ h => h) _ _ h1) ((fun _ _ h => h) _ _ h2))
  ·exact owe_part rfl wA rfl (k := 0) rfl (by kernel_rfl) rfl (fun ρ w b h => part_spot2 ρ _ _ w b 0 h)
  ·exact owe_pload rfl wA rfl (oO 11 27) (k := 0) rfl (by kernel_rfl) rfl (fun ρ w b u h1 h2 h3 => pload_st ldr_int (k := 2) rfl (by decide) (by decide) ρ _ _ w b u h1 h2 h3)
  ·exact cc2 wA (qO 10 26 rfl) (qO 12 28 rfl) (fresh_zn _) (fun w u v h1 h2 => g_zsub (by omega) (by omega) w u v ((zn_zv q1) _ _ h1) ((fun _ _ h => h) _ _ h2))
  ·exact owe_new rfl wA rfl rfl (fun ρ w => alloc_int ρ _ w)
  ·exact owe_put 14 rfl wA rfl (by kernel_rfl) rfl (oO 13 29) (stores_of strct_int shp_z0 shp_zn) rfl
 intro _ a3 _ (S3 : Sta w 39 [(1, (.box 54 (SP (AP pa nD nL nT K D L τ dn) (Vv k sh Ks) (Zv b KB) (Zv N KN) (Zv R KR)))), (2, (.box 32 zR)), (3, (.box 29 (Zv D1 K))), (4, (.box 29 ((ZN ((T0 * D1) - b)) w.heap.size)))] [] _ _ _)
 refine wq [.val ((ZN ((T0 * D1) - b)) w.heap.size), .val (Part a3 1 0), .val (AP pa nD nL nT K D L τ dn), .val (AP pa nD nL nT K D L τ dn), .val (AtE 2 (Zv dn K)), .val (Zv dn K), .val (Zv D1 K), .val ((ZN (dn * D1)) w.heap.size), .val (PR ((ZN ((T0 * D1) - b)) w.heap.size) ((ZN (dn * D1)) w.heap.size)), .put (.inl 2) (.box 32 (PR ((ZN ((T0 * D1) - b)) w.heap.size) ((ZN (dn * D1)) w.heap.size)))] [.inr 0, .inr 1] [] S3 ?_ ?_
 ·repeat' refine And.intro ?_ ?_
  ·trivial
  ·exact lod 3 wA (loads_of strct_int shp_zn)
  ·exact owe_part rfl wA rfl (k := 0) rfl (by kernel_rfl) rfl (fun ρ w b h => part_spot0 ρ _ _ w b 0 h)
  ·exact owe_pload rfl wA rfl (oO 1 31) (k := 0) rfl (by kernel_rfl) rfl (fun ρ w b u h1 h2 h3 => pload_st ldr_aimp (k := 0) rfl (by decide) (by decide) ρ _ _ w b u h1 h2 h3)
  ·exact owe_ptnil rfl wA rfl (oO 2 32) ap_pt rfl
  ·exact owe_apart (d := 3) rfl wA rfl ((oO 3 33).imp ap_at) (fun ρ w b k h => part_aim2 ρ _ _ w b k h) am_p2 rfl
  ·exact owe_aload rfl wA rfl ldr_int (by decide) (cel_shp (by decide) shp_zv) (oO 4 34) rfl
  ·exact lod 2 wA (loads_of strct_int shp_zv)
  ·exact cc2 wA (qO 5 35 rfl) (qO 6 36 rfl) (fresh_zn _) (fun w u v h1 h2 => g_zmul (by omega) w u v ((fun _ _ h => h) _ _ h1) ((fun _ _ h => h) _ _ h2))
  ·exact owe_build2 rfl wA rfl (oO 0 30) (oO 7 37) shp_zn shp_zn rfl
  ·exact owe_set rfl wA rfl (k := 1) rfl (by kernel_rfl) (oO 8 38) (stores_of strct_rat shp_r0 (shp_pr shp_zn shp_zn)) rfl
 intro _ a4 _ (S4 : Sta w 39 [(1, (.box 54 (SP (AP pa nD nL nT K D L τ dn) (Vv k sh Ks) (Zv b KB) (Zv N KN) (Zv R KR)))), (2, (.box 32 (PR ((ZN ((T0 * D1) - b)) w.heap.size) ((ZN (dn * D1)) w.heap.size))))] [] _ _ _)
 refine wp_ret ?_
 exact end_one S4 rfl (res_cell S4 1 2 rfl strct_rat (shp_pr shp_zn shp_zn))

end Go.Proofs.Ytoeopdmaogmjhaa

/-
 aim.Of.
-/
namespace Go.Proofs.Ytoeopdmaogmjhaa
open Go Go.RowKit Nt
set_option linter.unusedSimpArgs false
set_option linter.unusedVariables false
set_option maxRecDepth 20000


theorem pip_len {sz n : Nat} {φs : List Pr} {g : Value} : ∀ v w, PI g (Ar sz n φs) v w → ∃ p c, v = .slice p n c := fun v w h => ar_len v w h.2
theorem vv_monoO {n k k' : Nat} {zs : List Int} (hk : k ≤ k') : ∀ v w, Vv n zs k v w → Vv n zs k' v w := ar_imp (by simp) (fun i φ φ' h1 h2 v w h => by
 obtain ⟨z, hz, rfl⟩ := map_get h1
 obtain ⟨z', hz', rfl⟩ := map_get h2
 rw [hz] at hz'
 cases hz'
 exact zv_mono hk _ _ h)
theorem ce_impZ {sz : Nat} {φs ψs : List Pr} {xs : List Value} {w : World} (hl : φs.length = ψs.length) (hi : ∀ (i : Nat) φ ψ, φs[i]? = some φ → ψs[i]? = some ψ → ∀ v, φ v w → ψ v w) (h : CE sz φs xs w) : CE sz ψs xs w := by
 obtain ⟨us, e, l, c, a⟩ := h
 refine ⟨us, e, l.trans hl, c, fun i u ψ hu hψ => ?_⟩
 obtain ⟨φ, hφ⟩ : ∃ φ, φs[i]? = some φ := ⟨φs[i]'(by rw [hl]; exact (List.getElem?_eq_some_iff.1 hψ).1), List.getElem?_eq_getElem _⟩
 exact hi i φ ψ hφ hψ u (a i u φ hu hφ)
theorem ce_zeroZ {n lo : Nat} {xs : List Value} {w : World} (h : CE 2 (List.replicate n zI) xs w) : CE 2 (((List.replicate n (0 : Int)).map ZN).map (· lo)) xs w := by
 refine ce_impZ (by simp) (fun i φ ψ hφ hψ v hv => ?_) h
 rw [List.getElem?_replicate] at hφ
 rw [List.getElem?_map, List.getElem?_map, List.getElem?_replicate] at hψ
 split at hφ
 ·rename_i hi
  rw [if_pos hi] at hψ
  simp only [Option.some.injEq, Option.map_some] at hφ hψ
  subst hφ
  rw [← hψ]
  exact zero_zn v w hv
 ·cases hφ
theorem dl_zerosZ (n K : Nat) : Dl (List.replicate n (0 : Int)) K := fun i z h => by
 rw [List.getElem?_replicate] at h
 split at h
 ·simp only [Option.some.injEq] at h
  rw [← h]
  show (digs (0 : Int).natAbs).length ≤ K
  rw [show (0 : Int).natAbs = 0 from rfl, digs_zero]
  exact Nat.zero_le _
 ·cases h
/-- The pointer at an aim in new memory, over these very lists of the data. -/
def AQ (gx gy : Value) (n : Nat) (τ : List Int) (dn : Int) : Nat → Pr := fun lo v w => AtE 5 (AMI gx gy n τ dn lo) v w ∧ ∀ b k, v = .pointer (some ⟨b, k, none⟩) → lo ≤ b
theorem fresh_aq {gx gy : Value} {n : Nat} {τ : List Int} {dn : Int} : Fresh (AQ gx gy n τ dn) := by
 refine ⟨fun lo lo' v w hl ⟨⟨b, o, u, e, h1, h2, h3⟩, hf⟩ => ⟨⟨b, o, u, e, h1, h2, fresh_ami.mono _ _ _ _ hl h3⟩, fun b k e => Nat.le_trans hl (hf b k e)⟩, fun lo v w w' B hB ⟨⟨b, o, u, e, h1, h2, h3⟩, hf⟩ ev => ?_⟩
 have hb := hf b o e
 exact ⟨⟨b, o, u, e, fun j x hx => cell_ev' (h1 j x hx) (fun h => by have := hB b h; omega) ev, h2, fresh_ami.ev _ _ _ _ B hB h3 ev⟩, hf⟩
/-- The target's numbers over one denominator. -/
def tauL (ts : List (Int × Int)) (n : Nat) : List Int := if ts.length = 0 then List.replicate n 0 else tlL ts (cmN ts ts.length)
theorem tau_len {ts : List (Int × Int)} {n : Nat} (h : ts.length = 0 ∨ ts.length = n) : (tauL ts n).length = n := by
 rw [tauL]
 split
 ·simp
 ·rw [tl_len]; omega
theorem tau_dl {ts : List (Int × Int)} {n K S K' : Nat} (h : DenOk ts) (hd : ∀ i, i < ts.length → (digs (ts.getD i (0, 0)).1.natAbs).length ≤ K) (hs : dsum ts ts.length ≤ S) (hk : K + S ≤ K') : Dl (tauL ts n) K' := by
 rw [tauL]
 split
 ·exact dl_zerosZ _ _
 ·intro i z hz
  have hi : i < ts.length := by have := (List.getElem?_eq_some_iff.1 hz).1; rw [tl_len] at this; exact this
  rw [tl_get' hi] at hz
  simp only [Option.some.injEq] at hz
  rw [← hz, Int.natAbs_mul, Int.natAbs_natCast]
  refine Nat.le_trans (digs_mul_len (hd i hi) (l := S) (Nat.le_trans (digs_length_mono (Nat.div_le_self _ _)) (Nat.le_trans (cm_len h _ (Nat.le_refl _)) hs))) hk

abbrev q30to0 (w : World) (nT : Nat) (ts : List (Int × Int)) : Rk := .box 29 ((ZN (((cmN ts nT : Nat) : Int))) w.heap.size)
abbrev q30to1 (gx : Value) (gy : Value) (nL : Nat) (K : Nat) (L : List (List Int)) : Rk := .box 25 (SF [(Is (gx)), (PI gy (Mv nL L K))])
set_option maxHeartbeats 1000000 in
theorem of_0 (w : World) (u t gx gy : Value) (nL nT K Kt : Nat) (L : List (List Int)) (ts : List (Int × Int)) (h : Hs w (SF [Is gx, PI gy (Mv nL L K)]) u) (ht : Hs w (QV nT ts Kt) t) (hL : nL ≤ 1048576) (hT : nT ≤ 1048576) (hKt : Kt ≤ 1048576) (lt : ts.length = nT) (ok : DenOk ts) (hS : dsum ts nT ≤ 4194304) (h0 : nT = 0) :
  Calls Try.prog 17 #[u, t] w (Gives (AQ gx gy nL (List.replicate nL 0) ((cmN ts nT : Nat) : Int)) w) := by
 refine calls_sta (sl := [(0, (SF [(Is (gx)), (PI gy (Mv nL L K))])), (1, (QV nT ts Kt))]) Try.func17 rfl Try.ntmps17 (by simp) (args_cons rfl (h) (args_cons rfl (ht) args_nil)) ?_
 intro a0 S0
 refine wq [.new (q30to1 gx gy nL K L), .val (Is (.pointer none))] [.inl 0] [.inr 1] S0 ?_ ?_
 ·apply jj2
  ·exact owe_box rfl wA rfl (oS 0 0) rfl (fun ρ w h => box_gso shp_sf2 ρ _ _ w h)
  ·exact mC
 intro _ a1 _ (S1 : Sta w 24 [(2, (q30to1 gx gy nL K L))] [(1, (QV nT ts Kt))] _ _ _)
 refine wq [.val (QV nT ts Kt), .val ((TWO (VN nT (tlL ts (cmN ts nT))) (ZN (((cmN ts nT : Nat) : Int)))) w.heap.size), .val ((TWO (VN nT (tlL ts (cmN ts nT))) (ZN (((cmN ts nT : Nat) : Int)))) w.heap.size), .val ((VN nT (tlL ts (cmN ts nT))) w.heap.size), .val ((ZN (((cmN ts nT : Nat) : Int))) w.heap.size), .new (.box 29 zI), .val ((VN nT (tlL ts (cmN ts nT))) w.heap.size), .put (.inr 5) (q30to0 w nT ts)] [.inr 0, .inl 5] [.inl 6, .inr 0] S1 ?_ ?_
 ·repeat' refine And.intro ?_ ?_
  ·trivial
  ·exact mS 0 1
  ·exact ch1 wA (qO 0 8 rfl) (fresh_two fresh_vn (fresh_zn _)) (fun w u h => whol_w w u nT Kt ts h hT hKt lt ok hS)
  ·exact mO 1 9
  ·exact e20 wA (oO 2 7)
  ·exact e21 wA (oO 2 7)
  ·exact owe_new rfl wA rfl rfl (fun ρ w => alloc_int ρ _ w)
  ·exact mO 3 10
  ·exact owe_put 5 rfl wA rfl (by kernel_rfl) rfl (oO 4 11) (stores_of strct_int shp_z0 shp_zn) rfl
 intro _ a2 _ (S2 : Sta w 24 [(2, (q30to1 gx gy nL K L)), (6, (q30to0 w nT ts))] [(5, ((VN nT (tlL ts (cmN ts nT))) w.heap.size)), (1, (QV nT ts Kt))] _ _ _)
 refine wp_seq ?_
 refine wq [.val (QV nT ts Kt), .val (iV (nT : Nat)), kT] [.inr 0, .inr 1] [.inl 2, .inr 0] S2 ?_ ?_
 ·apply jj3
  ·exact mS 1 1
  ·exact owe_len rfl wA rfl (oO 0 12) ar_len Try.underlying26 rfl
  ·exact b_eql_int_t wA (oO 1 13) (opnd_const _)
 intro _ a3 _ (S3 : Sta w 24 [(2, (q30to1 gx gy nL K L)), (6, (q30to0 w nT ts))] [(14, bT), (5, ((VN nT (tlL ts (cmN ts nT))) w.heap.size))] _ _ _)
 refine wp_cond_true (S3.bool 0 14 rfl) ?_
 refine wr [.val (Part a3 2 1), .val (PI gy (Mv nL L K)), .val (iV (nL : Nat)), .new (.row 29 2 nL (CE 2 (List.replicate nL zI))), .ref 3] [.inr 0, .inr 1, .inl 4] [] S3 ?_ ?_
 ·apply jj5
  ·exact owe_part rfl wA rfl (k := 0) rfl (by kernel_rfl) rfl (fun ρ w b h => part_gso1 ρ _ _ w b 0 h)
  ·exact owe_pload rfl wA rfl (oO 0 15) (k := 0) rfl (by kernel_rfl) rfl (fun ρ w b u h1 h2 h3 => ploadS rfl load1_mat ρ _ _ w b u h1 h2 h3)
  ·exact owe_len rfl wA rfl (oO 1 16) pip_len Try.underlying23 rfl
  ·exact owe_makeE rfl wA rfl Try.underlying22 infoInt celv_z0 (by decide) (oO 2 17) ⟨by omega, by unfold maxLen; omega⟩ rfl
  ·exact owe_ref 3 rfl wA (Or.inr rfl) (by kernel_rfl) rfl rfl
 intro _ a4 W4 (S4 : Sta w 24 [(2, (q30to1 gx gy nL K L)), (6, (q30to0 w nT ts)), (5, (.row 29 2 nL (CE 2 (List.replicate nL zI))))] [] _ _ _)
 refine thenN ?_
 obtain ⟨B5, S5⟩ : ∃ Bq, Sta w 24 [(2, (q30to1 gx gy nL K L)), (6, (q30to0 w nT ts))] [(5, ((VN nL (List.replicate nL 0)) w.heap.size))] Bq a4 W4 := ⟨_, S4.freeze 2 rfl (by simp) (fun v w' xs ho hc => row_lf (by decide) v w' xs ho (ce_zeroZ hc))⟩
 obtain ⟨a5, W5, e1, e2⟩ : ∃ a W, a4 = a ∧ W4 = W := ⟨_, _, rfl, rfl⟩
 rw [e1, e2] at S5 ⊢
 clear e1 e2
 replace S5 : Sta w 24 [(2, (.box 25 (SF [(Is (gx)), (Is (gy))]))), (6, (q30to0 w nT ts))] [(5, ((VN nL (List.replicate nL 0)) w.heap.size))] B5 a5 W5 := S5.reboxS 0 rfl (sf_imp (fun v w h => h) ap_is)
 refine wq [.val (SF [(Is (gx)), (Is (gy))]), .val ((VN nL (List.replicate nL 0)) w.heap.size), .val ((ZN (((cmN ts nT : Nat) : Int))) w.heap.size), .val (AM (Is (gx)) (Is (gy)) ((VN nL (List.replicate nL 0)) w.heap.size) ((ZN (((cmN ts nT : Nat) : Int))) w.heap.size)), .val (fun v W => AtE 5 (AM (Is gx) (Is gy) (VN nL (List.replicate nL 0) w.heap.size) (ZN (((cmN ts nT : Nat) : Int)) w.heap.size)) v W ∧ ∀ b k, v = .pointer (some ⟨b, k, none⟩) → w.heap.size ≤ b), .val (fun v W => AtE 5 (AM (Is gx) (Is gy) (VN nL (List.replicate nL 0) w.heap.size) (ZN (((cmN ts nT : Nat) : Int)) w.heap.size)) v W ∧ ∀ b k, v = .pointer (some ⟨b, k, none⟩) → w.heap.size ≤ b)] [.inr 0] [.inl 5] S5 ?_ ?_
 ·apply jj6
  ·exact lod 0 wA (loads_of strct_gso shp_sf2)
  ·exact mS 0 5
  ·exact lod 1 wA (loads_of strct_int shp_zn)
  ·exact owe_build_am rfl wA rfl (oO 0 19) (oO 1 20) (oO 2 21) (fun v w h => by obtain ⟨p, c, e⟩ := lf_len v w h; exact ⟨_, _, _, e⟩) shp_zn rfl
  ·exact owe_boxaim rfl wA rfl (oO 3 22) shp_am rfl
  ·exact mO 4 23
 intro _ a6 _ (S6 : Sta w 24 [(2, (.box 25 (SF [(Is (gx)), (Is (gy))])))] [(4, (fun v W => AtE 5 (AM (Is gx) (Is gy) (VN nL (List.replicate nL 0) w.heap.size) (ZN (((cmN ts nT : Nat) : Int)) w.heap.size)) v W ∧ ∀ b k, v = .pointer (some ⟨b, k, none⟩) → w.heap.size ≤ b))] _ _ _)
 refine wp_ret ?_
 exact end_one S6 rfl (res_tmp S6 0 4 rfl)

abbrev qijqd0 (w : World) (nT : Nat) (ts : List (Int × Int)) : Pr := (ZN (((cmN ts nT : Nat) : Int))) w.heap.size
abbrev qijqd1 (w : World) (nT : Nat) (ts : List (Int × Int)) : Pr := (VN nT (tlL ts (cmN ts nT))) w.heap.size
set_option maxHeartbeats 1000000 in
theorem of_t (w : World) (u t gx gy : Value) (nL nT K Kt : Nat) (L : List (List Int)) (ts : List (Int × Int)) (h : Hs w (SF [Is gx, PI gy (Mv nL L K)]) u) (ht : Hs w (QV nT ts Kt) t) (hL : nL ≤ 1048576) (hT : nT ≤ 1048576) (hKt : Kt ≤ 1048576) (lt : ts.length = nT) (ok : DenOk ts) (hS : dsum ts nT ≤ 4194304) (h0 : nT ≠ 0) :
  Calls Try.prog 17 #[u, t] w (Gives (AQ gx gy nT (tlL ts (cmN ts nT)) ((cmN ts nT : Nat) : Int)) w) := by
 refine calls_sta (sl := [(0, (SF [(Is (gx)), (PI gy (Mv nL L K))])), (1, (QV nT ts Kt))]) Try.func17 rfl Try.ntmps17 (by simp) (args_cons rfl (h) (args_cons rfl (ht) args_nil)) ?_
 intro a0 S0
 refine wq [.new (.box 25 (SF [(Is (gx)), (PI gy (Mv nL L K))])), .val (Is (.pointer none))] [.inl 0] [.inr 1] S0 ?_ ?_
 ·apply jj2
  ·exact owe_box rfl wA rfl (oS 0 0) rfl (fun ρ w h => box_gso shp_sf2 ρ _ _ w h)
  ·exact mC
 intro _ a1 _ (S1 : Sta w 24 [(2, (.box 25 (SF [(Is (gx)), (PI gy (Mv nL L K))])))] [(1, (QV nT ts Kt))] _ _ _)
 refine wq [.val (QV nT ts Kt), .val ((TWO (VN nT (tlL ts (cmN ts nT))) (ZN (((cmN ts nT : Nat) : Int)))) w.heap.size), .val ((TWO (VN nT (tlL ts (cmN ts nT))) (ZN (((cmN ts nT : Nat) : Int)))) w.heap.size), .val (qijqd1 w nT ts), .val (qijqd0 w nT ts), .new (.box 29 zI), .val (qijqd1 w nT ts), .put (.inr 5) (.box 29 (qijqd0 w nT ts))] [.inr 0, .inl 5] [.inl 6, .inr 0] S1 ?_ ?_
 ·repeat' refine And.intro ?_ ?_
  ·trivial
  ·exact mS 0 1
  ·exact ch1 wA (qO 0 8 rfl) (fresh_two fresh_vn (fresh_zn _)) (fun w u h => whol_w w u nT Kt ts h hT hKt lt ok hS)
  ·exact mO 1 9
  ·exact e20 wA (oO 2 7)
  ·exact e21 wA (oO 2 7)
  ·exact owe_new rfl wA rfl rfl (fun ρ w => alloc_int ρ _ w)
  ·exact mO 3 10
  ·exact owe_put 5 rfl wA rfl (by kernel_rfl) rfl (oO 4 11) (stores_of strct_int shp_z0 shp_zn) rfl
 intro _ a2 _ (S2 : Sta w 24 [(2, (.box 25 (SF [(Is (gx)), (PI gy (Mv nL L K))]))), (6, (.box 29 (qijqd0 w nT ts)))] [(5, (qijqd1 w nT ts)), (1, (QV nT ts Kt))] _ _ _)
 refine wp_seq ?_
 refine wq [.val (QV nT ts Kt), .val (iV (nT : Nat)), kF] [.inr 0, .inr 1] [.inl 2, .inr 0] S2 ?_ ?_
 ·apply jj3
  ·exact mS 1 1
  ·exact owe_len rfl wA rfl (oO 0 12) ar_len Try.underlying26 rfl
  ·exact b_eql_int_f wA (oO 1 13) (opnd_const _)
 intro B3 a3 W3 (S3 : Sta w 24 [(2, (.box 25 (SF [(Is (gx)), (PI gy (Mv nL L K))]))), (6, (.box 29 (qijqd0 w nT ts)))] [(14, bF), (5, (qijqd1 w nT ts))] _ _ _)
 refine wp_cond_false (S3.bool 0 14 rfl) (wp_skip (thenN ?_))
 replace S3 : Sta w 24 [(2, (.box 25 (SF [(Is (gx)), (Is (gy))]))), (6, (.box 29 (qijqd0 w nT ts)))] [(14, bF), (5, (qijqd1 w nT ts))] B3 a3 W3 := S3.reboxS 0 rfl (sf_imp (fun v w h => h) ap_is)
 refine wq [.val (SF [(Is (gx)), (Is (gy))]), .val (qijqd1 w nT ts), .val (qijqd0 w nT ts), .val (AM (Is (gx)) (Is (gy)) (qijqd1 w nT ts) (qijqd0 w nT ts)), .val (fun v W => AtE 5 (AM (Is gx) (Is gy) (VN nT (tlL ts (cmN ts nT)) w.heap.size) (ZN (((cmN ts nT : Nat) : Int)) w.heap.size)) v W ∧ ∀ b k, v = .pointer (some ⟨b, k, none⟩) → w.heap.size ≤ b), .val (fun v W => AtE 5 (AM (Is gx) (Is gy) (VN nT (tlL ts (cmN ts nT)) w.heap.size) (ZN (((cmN ts nT : Nat) : Int)) w.heap.size)) v W ∧ ∀ b k, v = .pointer (some ⟨b, k, none⟩) → w.heap.size ≤ b)] [.inr 0] [.inl 5] S3 ?_ ?_
 ·apply jj6
  ·exact lod 0 wA (loads_of strct_gso shp_sf2)
  ·exact mS 1 5
  ·exact lod 1 wA (loads_of strct_int shp_zn)
  ·exact owe_build_am rfl wA rfl (oO 0 19) (oO 1 20) (oO 2 21) (fun v w h => by obtain ⟨p, c, e⟩ := lf_len v w h; exact ⟨_, _, _, e⟩) shp_zn rfl
  ·exact owe_boxaim rfl wA rfl (oO 3 22) shp_am rfl
  ·exact mO 4 23
 intro _ a4 _ (S4 : Sta w 24 [(2, (.box 25 (SF [(Is (gx)), (Is (gy))])))] [(4, (fun v W => AtE 5 (AM (Is gx) (Is gy) (VN nT (tlL ts (cmN ts nT)) w.heap.size) (ZN (((cmN ts nT : Nat) : Int)) w.heap.size)) v W ∧ ∀ b k, v = .pointer (some ⟨b, k, none⟩) → w.heap.size ≤ b))] _ _ _)
 refine wp_ret ?_
 exact end_one S4 rfl (res_tmp S4 0 4 rfl)


theorem of_H {nD nL nT K Kt K2 : Nat} {D : List Int} {L : List (List Int)} {ts : List (Int × Int)} (hL : nL ≤ 1048576) (hT : nT ≤ 1048576) (hKt : Kt ≤ 1048576) (lt : ts.length = nT) (ok : DenOk ts) (hS : dsum ts nT ≤ 4194304) (hTL : nT = 0 ∨ nT = nL) (hK2 : K ≤ K2) (hK3 : Kt + 4194304 ≤ K2)
  (B : Nat → Prop) (w : World) (u v : Value) (hB : ∀ k, B k → k < w.heap.size) (h : Has B w (SF [Vv nD D K, Mv nL L K]) u) (hv : Has B w (QV nT ts Kt) v) :
  Calls Try.prog 17 #[u, v] w fun e w' => ∃ r, e = .returned r ∧ Below w.heap.size w w' ∧ Has B w' (APx nD nL nL K2 D L (tauL ts nL) ((cmN ts nT : Nat) : Int)) r := by
 obtain ⟨cs, rfl, c1, c2, c3⟩ := id h.now
 match cs, c1, c2, c3 with
 | ⟨[gx, gy]⟩, _, c2, c3 =>
  have hx : Has B w (Vv nD D K) gx := fun w' e => by
   obtain ⟨cs', e1, _, _, h4⟩ := h w' e
   cases e1
   obtain ⟨x, hx, hp⟩ := h4 0 _ rfl
   simp at hx
   subst hx
   exact hp
  have hy : Has B w (Mv nL L K) gy := fun w' e => by
   obtain ⟨cs', e1, _, _, h4⟩ := h w' e
   cases e1
   obtain ⟨x, hx, hp⟩ := h4 1 _ rfl
   simp at hx
   subst hx
   exact hp
  have hu : Hs w (SF [Is gx, PI gy (Mv nL L K)]) (.agg #[gx, gy]) := fun w' e => ⟨_, rfl, rfl, c2, fun f q hq => by
   match f, hq with
   | 0, hq => simp at hq; subst hq; exact ⟨_, rfl, rfl⟩
   | 1, hq => simp at hq; subst hq; exact ⟨_, rfl, rfl, hy w' (e.mono (fun _ h => h.elim))⟩⟩
  have hdt : ∀ i, i < ts.length → (digs (ts.getD i (0, 0)).1.natAbs).length ≤ Kt := fun i hi => (qv_dl hv.now hi).1
  have hcl : (digs ((cmN ts nT : Nat) : Int).natAbs).length ≤ K2 := by rw [Int.natAbs_natCast]; exact Nat.le_trans (cm_len ok nT (by omega)) (by omega)
  have htl : Dl (tauL ts nL) K2 := tau_dl ok hdt (by rw [lt]; exact hS) hK3
  have fin : ∀ e w', Gives (AQ gx gy nL (tauL ts nL) ((cmN ts nT : Nat) : Int)) w e w' → ∃ r, e = .returned r ∧ Below w.heap.size w w' ∧ Has B w' (APx nD nL nL K2 D L (tauL ts nL) ((cmN ts nT : Nat) : Int)) r := by
   rintro e w' ⟨r, rfl, hbl, hr⟩
   refine ⟨r, rfl, hbl, fun w'' e'' => ?_⟩
   have ev : Ev B w w'' := (Ev.of_below hbl).back (fun _ _ h => h) e''
   obtain ⟨⟨b, o, a, e1, h1, h2, x, y, t, p, q, e3, h4, g1, g2, g3, g4⟩, _⟩ := fresh_aq.ev _ _ _ _ B hB hr e''
   have g1' : x = gx := g1
   have g2' : y = gy := g2
   subst g1' g2'
   exact ⟨b, o, a, e1, h1, h2, x, y, t, p, q, e3, h4, vv_monoO hK2 _ _ (hx w'' ev), mv_mono hK2 _ _ (hy w'' ev), vn_vv htl _ _ g3, zn_zv hcl _ _ g4⟩
  by_cases h0 : nT = 0
  ·have key := of_0 w (.agg #[gx, gy]) v gx gy nL nT K Kt L ts hu hv.hs hL hT hKt lt ok hS h0
   refine key.mono (fun e w' hg => fin e w' ?_)
   rw [show tauL ts nL = List.replicate nL 0 from if_pos (by omega)]
   exact hg
  ·have key := of_t w (.agg #[gx, gy]) v gx gy nL nT K Kt L ts hu hv.hs hL hT hKt lt ok hS h0
   refine key.mono (fun e w' hg => fin e w' ?_)
   have e1 : nT = nL := by omega
   subst e1
   rw [show tauL ts nT = tlL ts (cmN ts nT) from by rw [tauL, if_neg (by omega), lt]]
   exact hg

end Go.Proofs.Ytoeopdmaogmjhaa
