import Derived.Test.YtdiagoaakadniaaGreatMkB
import Derived.Test.YtdiagoaakadniaaGreatDtA
import Derived.Test.YtdiagoaakadniaaGreatMkA
import Derived.Test.YtdiagoaakadniaaGreatTrV
import Derived.Test.YtdiagoaakadniaaGreatMkD
namespace Go.Proofs.YtdiagoaakadniaaGreat
open Go Go.RowKit Nt
set_option linter.unusedSimpArgs false
set_option linter.unusedVariables false
set_option maxRecDepth 20000
set_option maxHeartbeats 16000000
theorem cram2 {G : Dt.Mt} {n : Nat} (h : Dt.Lead G n) (t : Nat) : ∃ x : Nat → Int, (∀ r, r < n → Dt.sm (fun c => x c * G r c) n = Dt.det n G * G r t) ∧ ∀ r, Dt.bo G n r t = Dt.det n G * G r t - Dt.sm (fun c => x c * G r c) n := by
 obtain ⟨C, hC⟩ := Dt.det_lr n (fun r c => G r (if c < n then c else t))
 have hn : C n = Dt.det n G := by
  have h1 := Dt.det_lr_foot n (fun r c => G r (if c < n then c else t))
  rw [hC, Dt.sm, Dt.sm_congr (g := fun _ => 0) (fun c hc => by rw [if_neg (by omega), Int.zero_mul]), Dt.sm_zero, if_pos rfl] at h1
  rw [show C n = 0 + 1 * C n by omega, h1]
  exact Dt.det_congr (fun r c _ hc => by rw [if_pos hc])
 have key : ∀ r, Dt.bo G n r t = Dt.det n G * G r t - Dt.sm (fun c => - C c * G r c) n := fun r => by
  rw [Dt.bo_lr, hC, Dt.sm, if_neg (by omega), hn, Dt.sm_congr (g := fun c => (-1) * (- C c * G r c)) (fun c hc => by rw [if_pos hc]; grind), Dt.sm_mul, Int.mul_comm (Dt.det n G)]
  omega
 refine ⟨fun c => - C c, fun r hr => ?_, key⟩
 have h1 := key r
 rw [Dt.bo_row0 h hr t] at h1
 show Dt.sm (fun c => - C c * G r c) n = _
 omega
theorem ykw {a d : Int} {b : Int} {k : Nat} (hd : d ≠ 0) (h : d * a = b) (hb : (digs b.natAbs).length ≤ k) : (digs a.natAbs).length ≤ k := by
 refine Nat.le_trans (yai ?_) hb
 rw [← h, Int.natAbs_mul]
 exact Nat.le_mul_of_pos_left _ (by omega)
section
variable {G : Nat → Nat → Int} {n t E F : Nat}
theorem ykt (hs : ∀ i j, G i j = G j i) (hp : ∀ m, m ≤ n → 0 < Dt.det m G) (hB : ∀ k i j, k < n → i < n → j < n → (digs (Dt.bo G k i j).natAbs).length ≤ 196) (hD : ∀ m, m ≤ n → (digs (Dt.det m G).natAbs).length ≤ 196) (hE : ∀ j, j < n → (digs (G t j).natAbs).length ≤ E) : ∀ k, k ≤ n → ∀ j, j < n → (digs (Dt.bo G k t j).natAbs).length ≤ E + 200 * k
 | 0, _, j, hj => by rw [Dt.bo_zero]; exact Nat.le_trans (hE j hj) (by omega)
 | k + 1, hk, j, hj => by
  have h := Dt.bo_step (G := G) (k := k) (fun m hm => Int.ne_of_gt (hp m (by omega))) t j
  rw [Dt.bo_self] at h
  have h1 := ykt hs hp hB hD hE k (by omega) j hj
  have h2 := ykt hs hp hB hD hE k (by omega) k (by omega)
  refine ykw (Int.ne_of_gt (hp k (by omega))) h ?_
  refine Nat.le_trans (yc1 (k := 196 + (E + 200 * k)) (ybx (hD (k + 1) hk) h1) (Nat.le_trans (ybx h2 (hB k k j (by omega) (by omega) hj)) (by omega))) (by omega)
theorem yo7 (hs : ∀ i j, G i j = G j i) (hp : ∀ m, m ≤ n → 0 < Dt.det m G) (hB : ∀ k i j, k < n → i < n → j < n → (digs (Dt.bo G k i j).natAbs).length ≤ 196) (hD : ∀ m, m ≤ n → (digs (Dt.det m G).natAbs).length ≤ 196) (hE : ∀ j, j < n → (digs (G t j).natAbs).length ≤ E) (hF : (digs (G t t).natAbs).length ≤ F) (hEF : 2 * E ≤ F) : ∀ k, k ≤ n → (digs (Dt.bo G k t t).natAbs).length ≤ F + 400 * k
 | 0, _ => by rw [Dt.bo_zero]; exact Nat.le_trans hF (by omega)
 | k + 1, hk => by
  have hl : Dt.Lead G (k + 1) := fun m hm => Int.ne_of_gt (hp m (by omega))
  have h := Dt.bo_step (G := G) (k := k) hl t t
  rw [Dt.bo_self, Dt.bo_sym hs (k := k) (fun m hm => hl m (by omega)) k t] at h
  have h1 := yo7 hs hp hB hD hE hF hEF k (by omega)
  have h2 := ykt hs hp hB hD hE k (by omega) k (by omega)
  refine ykw (Int.ne_of_gt (hp k (by omega))) h ?_
  refine Nat.le_trans (yc1 (k := 196 + (F + 400 * k)) (ybx (hD (k + 1) hk) h1) (Nat.le_trans (ybx h2 h2) (by omega))) (by omega)
theorem ynu {f : Nat → Int} {K : Nat} : ∀ {m : Nat}, (∀ i, i < m → (digs (f i).natAbs).length ≤ K) → (digs (Dt.sm f m).natAbs).length ≤ K + m
 | 0, _ => by
  show (digs (0 : Int).natAbs).length ≤ _
  rw [show (0 : Int).natAbs = 0 from rfl, yc9]
  exact Nat.zero_le _
 | m + 1, h => by
  have h1 := ynu (fun i hi => h i (by omega)) (m := m)
  have h2 := h m (by omega)
  rw [Dt.sm]
  exact Nat.le_trans (dl_add h1 (Nat.le_trans h2 (Nat.le_add_right _ _))) (by omega)
theorem x_len (hp : ∀ m, m ≤ n → 0 < Dt.det m G) (hB : ∀ k i j, k < n → i < n → j < n → (digs (Dt.bo G k i j).natAbs).length ≤ 196) (hD : ∀ m, m ≤ n → (digs (Dt.det m G).natAbs).length ≤ 196) (hE : ∀ k, k ≤ n → ∀ j, j < n → (digs (Dt.bo G k t j).natAbs).length ≤ E) (hn : n ≤ 12) {x : Nat → Int} (hx : ∀ i, i < n → Dt.det n G * Dt.bo G i t i - Dt.sm (fun s => x (i + 1 + s) * Dt.bo G i (i + 1 + s) i) (n - 1 - i) = Dt.det (i + 1) G * x i) : ∀ m, m < n → ∀ s, s ≤ m → (digs (x (n - 1 - s)).natAbs).length ≤ E + 196 + 210 * (s + 1)
 | m, hm, s, hs => by
  have ih : ∀ s', s' < s → (digs (x (n - 1 - s')).natAbs).length ≤ E + 196 + 210 * (s' + 1) := fun s' h' => x_len hp hB hD hE hn hx (m - 1) (by omega) s' (by omega)
  refine ykw (Int.ne_of_gt (hp (n - 1 - s + 1) (by omega))) (hx (n - 1 - s) (by omega)).symm ?_
  have e1 : (digs (Dt.det n G * Dt.bo G (n - 1 - s) t (n - 1 - s)).natAbs).length ≤ 196 + E := ybx (hD n (Nat.le_refl _)) (hE _ (by omega) _ (by omega))
  have e2 : (digs (Dt.sm (fun s' => x (n - 1 - s + 1 + s') * Dt.bo G (n - 1 - s) (n - 1 - s + 1 + s') (n - 1 - s)) (n - 1 - (n - 1 - s))).natAbs).length ≤ (E + 196 + 210 * s + 196) + (n - 1 - (n - 1 - s)) := ynu (fun i hi => by
   refine ybx ?_ (hB _ _ _ (by omega) (by omega) (by omega))
   have q := ih (s - 1 - i) (by omega)
   rw [show n - 1 - (s - 1 - i) = n - 1 - s + 1 + i by omega] at q
   exact Nat.le_trans q (by omega))
  refine Nat.le_trans (yc1 (k := E + 196 + 210 * s + 208) (Nat.le_trans e1 (by omega)) (Nat.le_trans e2 (by omega))) (by omega)
 termination_by m => m
end
theorem ymw {D : List Int} {L B B' : List (List Int)} {R : List Int} : ∀ m, (∀ j, j < m → B.getD j [] = B'.getD j []) → lfL D L B R m = lfL D L B' R m
 | 0, _ => rfl
 | m + 1, h => by rw [lfL, lfL, ymw m (fun j hj => h j (by omega)), h m (by omega)]
abbrev bxT (Bm : List (List Int)) (T : List Int) : List (List Int) := Bm ++ [T]
theorem bx_lo {Bm : List (List Int)} {T : List Int} {j : Nat} (hj : j < Bm.length) : (bxT Bm T).getD j [] = Bm.getD j [] := by rw [yfk, if_pos hj]
theorem bx_at {Bm : List (List Int)} {T : List Int} {n : Nat} (h : Bm.length = n) : (bxT Bm T).getD n [] = T := by rw [yfk, h, if_neg (by omega), if_pos rfl]
theorem grx_lo {Bm : List (List Int)} {T : List Int} {r c : Nat} (hr : r < Bm.length) (hc : c < Bm.length) : gr (bxT Bm T) r c = gr Bm r c := by unfold gr; rw [bx_lo hr, bx_lo hc]
theorem detx {Bm : List (List Int)} {T : List Int} {m : Nat} (hm : m ≤ Bm.length) : Dt.det m (gr (bxT Bm T)) = Dt.det m (gr Bm) := Dt.det_congr (fun r c hr hc => grx_lo (by omega) (by omega))
theorem box {Bm : List (List Int)} {T : List Int} {k i j : Nat} (hk : k < Bm.length) (hi : i < Bm.length) (hj : j < Bm.length) : Dt.bo (gr (bxT Bm T)) k i j = Dt.bo (gr Bm) k i j := Dt.det_congr (fun r c hr hc => grx_lo (by split <;> omega) (by split <;> omega))
def cmN (ts : List (Int × Int)) : Nat → Nat
 | 0 => 1
 | k + 1 => cmN ts k * ((ts.getD k (0, 0)).2.toNat / Nat.gcd (cmN ts k) (ts.getD k (0, 0)).2.toNat)
def DenOk (ts : List (Int × Int)) : Prop := ∀ k, k < ts.length → 0 < (ts.getD k (0, 0)).2
theorem gcd_dv (a b : Nat) : Nat.gcd a b * (b / Nat.gcd a b) = b := Nat.mul_div_cancel' (Nat.gcd_dvd_right a b)
theorem cm_ne {ts : List (Int × Int)} (h : DenOk ts) : ∀ k, k ≤ ts.length → cmN ts k ≠ 0
 | 0, _ => Nat.one_ne_zero
 | k + 1, hk => by
  have h1 := cm_ne h k (by omega)
  have h2 := h k (by omega)
  have h3 := gcd_dv (cmN ts k) (ts.getD k (0, 0)).2.toNat
  refine Nat.mul_ne_zero h1 (fun e => ?_)
  rw [e, Nat.mul_zero] at h3
  omega
theorem cm_dvd {ts : List (Int × Int)} : ∀ k j, j < k → k ≤ ts.length → (ts.getD j (0, 0)).2.toNat ∣ cmN ts k
  | k + 1, j, hj, hk => by
    rcases Nat.lt_or_ge j k with h1 | h1
    · exact Nat.dvd_trans (cm_dvd k j h1 (by omega)) (Nat.dvd_mul_right _ _)
    · have e : j = k := by omega
      subst e
      rw [cmN]
      generalize (ts.getD j (0, 0)).2.toNat = d
      obtain ⟨q, hq⟩ := Nat.gcd_dvd_left (cmN ts j) d
      have h3 := gcd_dv (cmN ts j) d
      refine ⟨q, ?_⟩
      calc cmN ts j * (d / Nat.gcd (cmN ts j) d) = (Nat.gcd (cmN ts j) d * (d / Nat.gcd (cmN ts j) d)) * q := by
            conv => lhs; rw [hq]
            rw [Nat.mul_assoc, Nat.mul_assoc, Nat.mul_comm q]
            congr 3 <;> rw [← hq]
        _ = d * q := by rw [h3]
def dsum (ts : List (Int × Int)) : Nat → Nat
 | 0 => 1
 | k + 1 => dsum ts k + (digs (ts.getD k (0, 0)).2.natAbs).length
theorem yjy {ts : List (Int × Int)} (h : DenOk ts) : ∀ k, k ≤ ts.length → (digs (cmN ts k)).length ≤ dsum ts k
 | 0, _ => by
  show (digs 1).length ≤ 1
  exact ya4 (by decide)
 | k + 1, hk => by
  have h1 := yjy h k (by omega)
  have h2 := h k (by omega)
  rw [cmN, dsum]
  refine yap h1 (yai (Nat.le_trans (Nat.div_le_self _ _) (by omega)))
def tlL (ts : List (Int × Int)) (M : Nat) : List Int := ts.map (fun t => t.1 * ((M / t.2.toNat : Nat) : Int))
theorem tl_len (ts : List (Int × Int)) (M : Nat) : (tlL ts M).length = ts.length := by simp [tlL]
theorem tl_get {ts : List (Int × Int)} {M k : Nat} (hk : k < ts.length) : (tlL ts M).getD k 0 = (ts.getD k (0, 0)).1 * ((M / (ts.getD k (0, 0)).2.toNat : Nat) : Int) := by
 rw [List.getD_eq_getElem?_getD, List.getD_eq_getElem?_getD, tlL, List.getElem?_map, List.getElem?_eq_getElem hk]
 rfl
theorem tl_eq {ts : List (Int × Int)} (h : DenOk ts) {k : Nat} (hk : k < ts.length) : (tlL ts (cmN ts ts.length)).getD k 0 * (ts.getD k (0, 0)).2 = (ts.getD k (0, 0)).1 * ((cmN ts ts.length : Nat) : Int) := by
 rw [tl_get hk, Int.mul_assoc]
 congr 1
 have h1 := h k hk
 obtain ⟨q, hq⟩ := cm_dvd ts.length k hk (Nat.le_refl _)
 rw [hq, Nat.mul_div_cancel_left _ (by omega), Int.natCast_mul, Int.mul_comm, show (((ts.getD k (0, 0)).2.toNat : Nat) : Int) = (ts.getD k (0, 0)).2 by omega]
theorem g_zgcd {A B : Int} {ka kb : Nat} (hk : ka ≤ 67108864) (hk' : kb ≤ 67108864) : ∀ w u v, Zv A ka u w → Zv B kb v w → Calls Tryz.prog 67 #[u, v] w (Gives (ZN ((Nat.gcd A.natAbs B.natAbs : Nat) : Int)) w) := by
 rintro w u v ⟨s, p, n, c, xs, rfl, h, rfl, hn⟩ ⟨t, q, m, d, ys, rfl, h', rfl, hm⟩
 rw [sg_abs, sg_abs]
 refine (zgcd_c w s t p q n c m d xs ys h h' (by omega) (by omega)).mono ?_
 rintro e w' ⟨r, cr, rfl, hb, hs, hf⟩
 refine ⟨_, rfl, hb, r, cr, ?_, ?_, hf⟩
 ·rw [Int.natAbs_natCast, show ng ((Nat.gcd (val xs) (val ys) : Nat) : Int) = false by simp [ng]]
 ·rw [Int.natAbs_natCast]; exact hs
theorem ex_nat {a b : Nat} (hb : b ≠ 0) (h : b ∣ a) : fl (a : Int) (b : Int) = ((a / b : Nat) : Int) ∧ rm (a : Int) (b : Int) = 0 := by
 obtain ⟨q, rfl⟩ := h
 rw [Nat.mul_div_cancel_left _ (by omega)]
 exact ykz (by omega) (Int.natCast_mul b q)
theorem dset {α : Type} {xs : List α} {n k : Nat} {x z : α} (hn : xs.length = n) (hk : k < n) (hx : xs[n - 1 - k]? = some x) : (List.replicate (n - k) z ++ xs.drop (n - k)).set (n - 1 - k) x = List.replicate (n - (k + 1)) z ++ xs.drop (n - (k + 1)) := by
 refine List.ext_getElem? (fun i => ?_)
 rw [List.getElem?_set]
 simp only [List.length_append, List.length_replicate, List.length_drop, List.getElem?_append, List.getElem?_replicate, List.getElem?_drop]
 by_cases e : n - 1 - k = i
 ·rw [if_pos e, if_pos (by omega), if_neg (by omega), show n - (k + 1) + (i - (n - (k + 1))) = n - 1 - k by omega, hx]
 ·rw [if_neg e]
  by_cases h1 : i < n - (k + 1)
  ·rw [if_pos (by omega), if_pos (by omega), if_pos h1, if_pos (by omega)]
  ·rw [if_neg (by omega), if_neg h1]
   congr 1
   omega
theorem dend {α : Type} {xs : List α} {n k : Nat} {z : α} (h : n = k) : List.replicate (n - k) z ++ xs.drop (n - k) = xs := by
 rw [show n - k = 0 by omega]
 rfl
theorem dstart {α : Type} {xs : List α} {n : Nat} {z : α} (hn : xs.length = n) : List.replicate (n - 0) z ++ xs.drop (n - 0) = List.replicate n z := by
 rw [Nat.sub_zero, List.drop_of_length_le (by omega), List.append_nil]
def xsK (xs : List Int) (n k : Nat) : List Int := List.replicate (n - k) 0 ++ xs.drop (n - k)
theorem xsK_len {xs : List Int} {n k : Nat} (hn : xs.length = n) (hk : k ≤ n) : (xsK xs n k).length = n := by simp [xsK, hn]
theorem xsK_get {xs : List Int} {n k j : Nat} (hk : k ≤ n) (hj : n - k ≤ j) : (xsK xs n k).getD j 0 = xs.getD j 0 := by
 rw [List.getD_eq_getElem?_getD, List.getD_eq_getElem?_getD, xsK, List.getElem?_append_right (by simpa using hj), List.getElem?_drop]
 congr 2
 simp
 omega
theorem xsK_dl {xs : List Int} {n k K : Nat} (h : Dl xs K) : Dl (xsK xs n k) K := fun i z hz => by
 rw [xsK, List.getElem?_append] at hz
 split at hz
 ·rw [List.getElem?_replicate] at hz
  split at hz
  ·simp at hz; subst hz; rw [show (0 : Int).natAbs = 0 from rfl, yc9]; exact Nat.zero_le _
  ·cases hz
 ·rw [List.getElem?_drop] at hz
  exact h _ z hz
theorem ce_xsK {xs : List Int} {n k lo : Nat} {ys : List Value} {w : World} (h : CE 2 (List.replicate (n - k) zI ++ ((xs.map ZN).map (· lo)).drop (n - k)) ys w) : CE 2 (((xsK xs n k).map ZN).map (· lo)) ys w := by
 refine ce_impL (by simp [xsK]) (fun i φ ψ hφ hψ v hv => ?_) h
 rw [List.getElem?_map, List.getElem?_map, xsK] at hψ
 rw [List.getElem?_append] at hφ hψ
 simp only [List.length_replicate] at hφ hψ
 split at hφ
 ·rename_i hi
  rw [if_pos hi, List.getElem?_replicate, if_pos hi] at hψ
  rw [List.getElem?_replicate, if_pos hi] at hφ
  simp only [Option.some.injEq, Option.map_some] at hφ hψ
  subst hφ
  rw [← hψ]
  exact zero_zn v w hv
 ·rename_i hi
  rw [if_neg hi, List.getElem?_drop] at hψ
  rw [List.getElem?_drop, List.getElem?_map, List.getElem?_map] at hφ
  rw [hφ] at hψ
  cases hψ
  exact hv
theorem bhL_xsK {xs : List Int} {L : List (List Int)} {n k i : Nat} (hk : k ≤ n) (hi : n - k ≤ i + 1) : ∀ t, bhL (xsK xs n k) L i t = bhL xs L i t
 | 0 => rfl
 | t + 1 => by rw [bhL, bhL, bhL_xsK hk hi t, xsK_get hk (by omega)]
section
variable {ops : Array Oper} {l : List Kd} {bx : Bxs} {sl : List (Tmp × Pr)} {i : Nat} {o : Oper} {Q : Exit → Act → World → Prop} {a0 : Act} {n : Nat} {w0 : World}
theorem owe_behR {x0 x1 x2 : Operand} {ts : Array TypeId} {t kk E nD nL m k K : Nat} {D xs : List Int} {L : List (List Int)} (ho : ops[i]? = some o) (hw : Wants ops l bx sl i o) (hop : o.op = .call { callee := .value (.func 48), args := #[x0, x1, x2], argTypes := ts })
    (h0 : Opnd ops l bx sl i x0 (SF [Vv nD D K, Mv nL L K])) (h1 : Opnd ops l bx sl i x1 (Is (a0.eval (.tmp t)))) (h2 : Opnd ops l bx sl i x2 (iV ((m - 1 - k : Nat) : Int))) (hb : bx[kk]? = some (t, .row E 2 m (CE 2 (List.replicate (m - k) zI ++ ((xs.map ZN).map (· w0.heap.size)).drop (m - k))))) (hu : unturned ops l i (.inl t) = true)
    (hx : Dl xs K) (lx : xs.length = m) (hkm : k < m) (hD : nD ≤ 1048576) (hL : nL ≤ 1048576) (hm : m ≤ 1048576) (hK : K ≤ 500000000) (lD : D.length = nD) (lL : L.length = nL) (en : nL = m) (hr : ∀ j, j < nL → (L.getD j []).length = j)
    (hk : kdAt l i = .val (ZN (sumZ (bhL xs L (m - 1 - k) k)) w0.heap.size)) : Owed Tryz.prog ops Q l bx sl a0 n w0 i :=
  ygr ho hw hop hk (fun args w => by go_simp) fun vs B a w c => by
    rw [show (#[x0, x1, x2] : Array Operand).map a.eval = #[a.eval x0, a.eval x1, a.eval x2] from by simp]
    have e1 : a.eval x1 = a0.eval (.tmp t) := (h1 a0 n w0 vs B a w c).now
    have e2 : a.eval x2 = .int .i64 ((m - 1 - k : Nat) : Int) := (h2 a0 n w0 vs B a w c).now
    have h1' : Hs w (Vv m (xsK xs m k) K) (a.eval x1) := by
      rw [e1]
      exact row_hs (c.box t _ (List.mem_of_getElem? hb) hu) (fun v w ys ho hc => yju (xsK_dl hx) v w (ydi (by decide) v w ys ho (ce_xsK hc)))
    rw [e2]
    have q := behind_w w (a.eval x0) (a.eval x1) nD nL m K D (xsK xs m k) L (h0 a0 n w0 vs B a w c).hs h1' hD hL hm hK lD lL (xsK_len lx (by omega)) (m - 1 - k) en (by omega) hr
    rw [bhL_xsK (by omega) (by omega), show m - 1 - (m - 1 - k) = k by omega] at q
    exact q.mono (fun e w' h => yip (ya1 _) c h)
end
theorem qv_dl {n k : Nat} {ts : List (Int × Int)} {v : Value} {w : World} (h : QV n ts k v w) {i : Nat} (hi : i < ts.length) : (digs (ts.getD i (0, 0)).1.natAbs).length ≤ k ∧ (digs (ts.getD i (0, 0)).2.natAbs).length ≤ k := by
 obtain ⟨p, c, rfl, hl, hb, ha⟩ := h
 obtain ⟨b, o, u, _, _, _, x0, x1, y0, y1, _, h1, h2⟩ := ha i _ (yjd hi)
 exact ⟨zv_dl h1, zv_dl h2⟩
theorem ymk (ts : List (Int × Int)) : ∀ {a b : Nat}, a ≤ b → dsum ts a ≤ dsum ts b
 | a, 0, h => by rw [show a = 0 by omega]; exact Nat.le_refl _
 | a, b + 1, h => by
  rcases Nat.lt_or_ge a (b + 1) with h1 | h1
  ·exact Nat.le_trans (ymk ts (show a ≤ b by omega)) (Nat.le_add_right _ _)
  ·rw [show a = b + 1 by omega]; exact Nat.le_refl _
theorem tl_get' {ts : List (Int × Int)} {M k : Nat} (hk : k < ts.length) : (tlL ts M)[k]? = some (((ts.getD k (0, 0)).1) * (((M / (ts.getD k (0, 0)).2.toNat : Nat) : Int))) := by
 rw [tlL, List.getElem?_map, List.getElem?_eq_getElem hk, List.getD_eq_getElem?_getD, List.getElem?_eq_getElem hk]
 rfl
theorem gD {α : Type} {l : List α} {d : α} {i : Nat} (h : i < l.length) : l[i]? = some (l.getD i d) := by
 rw [List.getD_eq_getElem?_getD, List.getElem?_eq_getElem h]
 rfl
theorem nabs_pos {a : Int} (h : 0 < a) : a.natAbs = a.toNat := by omega
theorem celv_r0 : Celv 4 (.agg #[.bool false, .slice none 0 0, .bool false, .slice none 0 0]) := ykv (cs := #[.bool false, .slice none 0 0, .bool false, .slice none 0 0]) (by decide) (by simp [Value.oneCell'])
theorem yqx : Sto 28 4 := ynw (by decide) yah
theorem mv_mono {n k k' : Nat} {A : List (List Int)} (hk : k ≤ k') : ∀ v w, Mv n A k v w → Mv n A k' v w := ymb (by simp) (fun i φ φ' h1 h2 v w h => by
 obtain ⟨a, ha, rfl⟩ := yba h1
 obtain ⟨b, hb, rfl⟩ := yba h2
 obtain rfl : a = b := Option.some.inj (ha.symm.trans hb)
 exact ymb (by simp) (fun i φ φ' h1 h2 v w h => by
  obtain ⟨a', ha', rfl⟩ := yba h1
  obtain ⟨b', hb', rfl⟩ := yba h2
  obtain rfl : a' = b' := Option.some.inj (ha'.symm.trans hb')
  exact zv_mono hk v w h) v w h)
theorem qq_zero {M : Nat} (hM : M ≠ 0) : RN 0 1 = QQ 0 M := by
 rw [qq_1]
 exact yff (by decide) hM (by simp)
theorem al_step {P T N b : Int} {D M : Nat} (hD : D ≠ 0) (hM : M ≠ 0) (hT : T * (D : Int) = N * (M : Int)) : QQ (P * ((D * 1 : Nat) : Int) + (N * b) * (M : Int)) (M * (D * 1)) = QQ (P + T * b) M := by
 rw [Nat.mul_one]
 refine yff (Nat.mul_ne_zero hM hD) hM ?_
 simp only [Int.natCast_mul]
 generalize (D : Int) = d at *
 generalize (M : Int) = m at *
 grind
theorem sq_step {P T N : Int} {D M : Nat} (hD : D ≠ 0) (hM : M ≠ 0) (hT : T * (D : Int) = N * (M : Int)) : QQ (P * ((D * D : Nat) : Int) + (N * N) * ((M * M : Nat) : Int)) (M * M * (D * D)) = QQ (P + T * T) (M * M) := by
 refine yff (Nat.mul_ne_zero (Nat.mul_ne_zero hM hM) (Nat.mul_ne_zero hD hD)) (Nat.mul_ne_zero hM hM) ?_
 simp only [Int.natCast_mul]
 generalize (D : Int) = d at *
 generalize (M : Int) = m at *
 have e : N * N * (m * m) = T * T * (d * d) := by
  have : N * m * (N * m) = T * d * (T * d) := by rw [hT]
  grind
 rw [e]
 grind
end Go.Proofs.YtdiagoaakadniaaGreat
