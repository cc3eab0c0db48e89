import Derived.Test.YtddjoigjdolafaaGreatFiC
import Derived.Test.YtddjoigjdolafaaGreatDtA
import Derived.Test.YtddjoigjdolafaaGreatGsD
import Derived.Test.YtddjoigjdolafaaGreatMkB
import Derived.Test.YtddjoigjdolafaaGreatMkC
/-
 The norm of data of rows is the squared length of the vector.
-/
namespace Go.Proofs.YtddjoigjdolafaaGreat
open Go Go.RowKit Nt
set_option linter.unusedSimpArgs false
set_option linter.unusedVariables false
set_option maxRecDepth 20000

theorem bhL_sm (x : List Int) (L : List (List Int)) (i : Nat) : ∀ k, sumZ (bhL x L i k) = Dt.sm (fun t => x.getD (i + 1 + t) 0 * (L.getD (i + 1 + t) []).getD i 0) k
 | 0 => rfl
 | k + 1 => by
  rw [bhL, sumZ_append, bhL_sm x L i k, Dt.sm_split]
  simp only [sumZ]
  omega
/-- The squared length. -/
def lnQ (Bm : List (List Int)) (x : List Int) (n : Nat) : Int := Dt.qd (gr Bm) (fun i => x.getD i 0) n 0
theorem nm_len {Bm : List (List Int)} {x : List Int} {n : Nat} (h : OfOk Bm n) : nmP (gwD Bm n) x (gwL Bm n) n n = lnQ Bm x n * (nmQ (gwD Bm n) n : Int) := by
 have g := gw_good h
 have hl1 := (gw_len Bm n).1
 have hL := gw_lead (fun k hk => h.ne k hk)
 have hi := (gw_is hL).1
 have hd : ∀ k, k ≤ n → (dN (gwD Bm n) k : Int) = Dt.det k (gr Bm) := fun k hk => by rw [← (dN_eq g (i := k) (by omega)).1]; exact hi.d k hk
 have hs : ∀ k, k < n → Dt.sd (gr Bm) (fun i => x.getD i 0) n k = nmS (gwD Bm n) x (gwL Bm n) n k := fun k hk => by
  rw [Dt.sd_from (fun m hm => hL m (by omega)) hk]
  unfold nmS nmT
  rw [bhL_sm, ← hi.d (k + 1) (by omega)]
  congr 1
  refine Dt.sm_congr (fun t ht => ?_)
  rw [hi.l (k + 1 + t) (by omega) k (by omega)]
 refine Dt.norm_len (gr_sym Bm) (x := fun i => x.getD i 0) hL (P := nmP (gwD Bm n) x (gwL Bm n) n) (Q := fun k => (nmQ (gwD Bm n) k : Int)) rfl rfl (fun k hk => ?_) (fun k hk => ?_)
 ·rw [hs k hk, ← hd k (by omega), ← hd (k + 1) (by omega), ← Int.natCast_mul]
  rfl
 ·rw [← hd k (by omega), ← hd (k + 1) (by omega), ← Int.natCast_mul, ← Int.natCast_mul]
  rfl
theorem nm_cast {Bm : List (List Int)} {x : List Int} {n : Nat} (h : OfOk Bm n) : QQ (nmP (gwD Bm n) x (gwL Bm n) n n) (nmQ (gwD Bm n) n) = RN (lnQ Bm x n) 1 := by
 rw [qq_1]
 refine qq_eq (nmQ_ne (gw_good h) n (by rw [(gw_len Bm n).2]; exact Nat.le_refl _)) (by decide) ?_
 rw [nm_len h]
 simp
end Go.Proofs.YtddjoigjdolafaaGreat

/-
 A sum of rows by a list of numbers, and its squared length.
-/
namespace Go.Proofs.YtddjoigjdolafaaGreat
open Go Go.RowKit Nt
set_option linter.unusedSimpArgs false
set_option linter.unusedVariables false
set_option maxRecDepth 20000

/-- The sum of the first k rows, each as many times as x says. -/
def cbF (x : List Int) (Bm : List (List Int)) (k c : Nat) : Int := Dt.sm (fun t => x.getD t 0 * (Bm.getD t []).getD c 0) k
def cb (x : List Int) (Bm : List (List Int)) (wd k : Nat) : List Int := (List.range wd).map (cbF x Bm k)
theorem cb_len (x : List Int) (Bm : List (List Int)) (wd k : Nat) : (cb x Bm wd k).length = wd := by simp [cb]
theorem cb_zero (x : List Int) (Bm : List (List Int)) (wd : Nat) : cb x Bm wd 0 = List.replicate wd 0 := by
 refine List.ext_getElem (by simp [cb]) (fun i h1 h2 => ?_)
 simp [cb, cbF, Dt.sm]
theorem cb_get (x : List Int) (Bm : List (List Int)) {wd k c : Nat} (hc : c < wd) : (cb x Bm wd k).getD c 0 = cbF x Bm k c := by
 simp [cb, List.getD_eq_getElem?_getD, hc]
theorem cb_step (x : List Int) (Bm : List (List Int)) {wd k : Nat} (hl : (Bm.getD k []).length = wd) : List.zipWith (fun a b => a + x.getD k 0 * b) (cb x Bm wd k) (Bm.getD k []) = cb x Bm wd (k + 1) := by
 refine List.ext_getElem (by simp only [List.length_zipWith, cb_len, hl, Nat.min_self]) (fun i h1 h2 => ?_)
 have hi : i < wd := by rw [cb_len] at h2; exact h2
 simp only [List.getElem_zipWith]
 simp only [cb, List.getElem_map, List.getElem_range, cbF, Dt.sm]
 rw [List.getD_eq_getElem?_getD (l := Bm.getD k []), List.getElem?_eq_getElem (by omega)]
 rfl
theorem cb_dot {x : List Int} {Bm : List (List Int)} {wd n : Nat} (hl : ∀ i, (Bm.getD i []).length ≤ wd) : dotR (cb x Bm wd n) (cb x Bm wd n) = lnQ Bm x n := by
 rw [dot_sm _ _ wd (by rw [cb_len]; exact Nat.le_refl _)]
 unfold lnQ Dt.qd
 have e1 : ∀ c, c < wd → (cb x Bm wd n).getD c 0 * (cb x Bm wd n).getD c 0 = Dt.sm (fun i => Dt.sm (fun j => x.getD i 0 * (Bm.getD i []).getD c 0 * (x.getD j 0 * (Bm.getD j []).getD c 0)) n) n := fun c hc => by
  rw [cb_get x Bm hc]
  unfold cbF
  rw [← Dt.sm_left]
  exact Dt.sm_congr (fun i _ => (Dt.sm_mul _ _ _).symm)
 rw [Dt.sm_congr e1, Dt.sm_comm]
 refine Dt.sm_congr (fun i _ => ?_)
 rw [Dt.sm_comm]
 refine Dt.sm_congr (fun j _ => ?_)
 rw [Dt.bo_zero]
 show _ = _ * dotR _ _
 rw [dot_sm _ _ wd (hl i), ← Dt.sm_mul]
 refine Dt.sm_congr (fun c _ => ?_)
 show x.getD i 0 * (Bm.getD i []).getD c 0 * (x.getD j 0 * (Bm.getD j []).getD c 0) = x.getD i 0 * x.getD j 0 * ((Bm.getD i []).getD c 0 * (Bm.getD j []).getD c 0)
 generalize (Bm.getD i []).getD c 0 = p
 generalize (Bm.getD j []).getD c 0 = q
 generalize x.getD i 0 = r
 generalize x.getD j 0 = s
 rw [Int.mul_assoc, Int.mul_assoc, Int.mul_left_comm p s q]
/-- How long the numbers are. -/
theorem sm_dl {f : Nat → Int} {K : Nat} : ∀ {n : Nat}, (∀ i, i < n → (digs (f i).natAbs).length ≤ K) → (digs (Dt.sm f n).natAbs).length ≤ K + n
 | 0, _ => by
  show (digs (0 : Int).natAbs).length ≤ _
  rw [show (0 : Int).natAbs = 0 from rfl, digs_zero]
  exact Nat.zero_le _
 | n + 1, h => by
  have h1 := sm_dl (fun i hi => h i (by omega)) (n := n)
  have h2 := h n (by omega)
  rw [Dt.sm]
  exact Nat.le_trans (dl_add h1 (Nat.le_trans h2 (Nat.le_add_right _ _))) (by omega)
theorem cb_dl {x : List Int} {Bm : List (List Int)} {wd n K Kb : Nat} (hx : Dl x K) (hb : Mdl Bm Kb) : ∀ k, k ≤ n → Dl (cb x Bm wd k) (K + Kb + n) := fun k hk i z hz => by
 obtain ⟨c, hc, rfl⟩ := map_get hz
 have : (digs (cbF x Bm k c).natAbs).length ≤ (K + Kb) + k := sm_dl (fun t _ => by
  refine digs_mulZ ?_ ?_
  ·rw [List.getD_eq_getElem?_getD]
   cases e : x[t]? with
   | none => simp [show (0 : Int).natAbs = 0 from rfl, digs_zero]
   | some z => exact hx t z e
  ·rw [List.getD_eq_getElem?_getD, List.getD_eq_getElem?_getD]
   cases e : Bm[t]? with
   | none => simp [show (0 : Int).natAbs = 0 from rfl, digs_zero]
   | some r =>
    simp only [Option.getD_some]
    cases e2 : r[c]? with
    | none => simp [show (0 : Int).natAbs = 0 from rfl, digs_zero]
    | some z => exact hb t r e c z e2)
 omega
theorem dl_getL {D : List Int} {K : Nat} (h : Dl D K) (k : Nat) : (digs (D.getD k 0).natAbs).length ≤ K := by
 rw [List.getD_eq_getElem?_getD]
 cases e : D[k]? with
 | none => simp [show (0 : Int).natAbs = 0 from rfl, digs_zero]
 | some z => exact h k z e
theorem wtD_leL {D : List Int} {K : Nat} (h : Dl D K) : ∀ k, wtD D k ≤ k * K
 | 0 => Nat.zero_le _
 | k + 1 => by
  have ih := wtD_leL h k
  have e := dl_getL h k
  have e1 : (k + 1) * K = k * K + K := Nat.succ_mul _ _
  simp only [wtD]
  omega
/-- What is held of the data of a basis. -/
theorem gl_ok {Bm : List (List Int)} {n : Nat} (h : OfOk Bm n) : Dl (gwD Bm n) 196 ∧ Mdl (gwL Bm n) 196 ∧ wtD (gwD Bm n) (n + 1) ≤ 1048576 := by
 have h12 := h.top
 have ok : WdOk Bm n 196 := wd_all h.top (Nat.le_refl _) h.bits (nar_row h.nar) (fun k hk => h.ne k (by omega))
 have dD := gwD_dl (by omega) ok n (Nat.le_refl _)
 have dL := gwL_dl ok n (Nat.le_refl _)
 refine ⟨dD, dL, ?_⟩
 have := wtD_leL dD (n + 1)
 have : (n + 1) * 196 ≤ 2548 := by omega
 omega
theorem dot_dl {u v : List Int} {K wd : Nat} (hu : Dl u K) (hv : Dl v K) (hl : u.length ≤ wd) : (digs (dotR u v).natAbs).length ≤ K + K + wd := by
 rw [dot_sm _ _ wd hl]
 exact sm_dl (fun i _ => digs_mulZ (dl_getL hu i) (dl_getL hv i))
theorem sng_arL {E sz lo : Nat} {φ : Pr} : ∀ v w, Sng E sz φ lo v w → Ar sz 1 [φ] v w := by
 rintro v w ⟨g, u, rfl, h1, h2, h3, h4⟩
 refine ⟨_, 1, rfl, rfl, ⟨Nat.le_refl _, by unfold maxLen; omega, (fun e => by cases e)⟩, fun i φ' hφ => ?_⟩
 match i, hφ with
 | 0, hφ =>
  simp at hφ
  subst hφ
  refine ⟨g, 0, u, rfl, fun j x hx => ?_, h3.siz, h4⟩
  simp only [World.cell?, h2, Nat.mul_zero, Nat.zero_add]
  simpa using hx
 | i + 1, hφ => simp at hφ
theorem ce_impL {sz : Nat} {φs ψs : List Pr} {xs : List Value} {w : World} (hl : φs.length = ψs.length) (hi : ∀ (i : Nat) φ ψ, φs[i]? = some φ → ψs[i]? = some ψ → ∀ v, φ v w → ψ v w) (h : CE sz φs xs w) : CE sz ψs xs w := by
 obtain ⟨us, e, l, c, a⟩ := h
 refine ⟨us, e, l.trans hl, c, fun i u ψ hu hψ => ?_⟩
 obtain ⟨φ, hφ⟩ : ∃ φ, φs[i]? = some φ := ⟨φs[i]'(by rw [hl]; exact (List.getElem?_eq_some_iff.1 hψ).1), List.getElem?_eq_getElem _⟩
 exact hi i φ ψ hφ hψ u (a i u φ hu hφ)
theorem ce_zeroL {n lo : Nat} {xs : List Value} {w : World} (h : CE 2 (List.replicate n zI) xs w) : CE 2 (((List.replicate n (0 : Int)).map ZN).map (· lo)) xs w := by
 refine ce_impL (by simp) (fun i φ ψ hφ hψ v hv => ?_) h
 rw [List.getElem?_replicate] at hφ
 rw [List.getElem?_map, List.getElem?_map, List.getElem?_replicate] at hψ
 split at hφ
 ·rename_i hi
  rw [if_pos hi] at hψ
  simp only [Option.some.injEq, Option.map_some] at hφ hψ
  subst hφ
  rw [← hψ]
  exact zero_zn v w hv
 ·cases hφ
end Go.Proofs.YtddjoigjdolafaaGreat

/-
 The document's sum of rows, and the product of one row and a matrix.
-/
namespace Go.Proofs.YtddjoigjdolafaaGreat
open Go Go.RowKit Nt
set_option linter.unusedSimpArgs false
set_option linter.unusedVariables false
set_option maxRecDepth 20000

abbrev q3z1b0 (Kq : Nat) (q : Int) : Rk := .box 41 (Zv q Kq)
set_option maxHeartbeats 400000 in
theorem r5gr_w (w : World) (u z v : Value) (n Ka Kq Kb : Nat) (q : Int) (As Bs : List Int) (h : Hs w (Vv n As Ka) u) (hz0 : Hs w (Zv q Kq) z) (hv : Hs w (Vv n Bs Kb) v) (hn : n ≤ 1048576) (hK : Ka ≤ 1073741824) (hq : (digs q.natAbs).length ≤ Kq) (hK2 : Kq + Kb ≤ 1073741824) :
  Calls Tryz.prog 40 #[u, z, v] w (Gives (VN n (List.zipWith (fun a b => a + q * b) As Bs)) w) := by
 have hA := vv_len h.now
 have hB := vv_len hv.now
 refine calls_sta (sl := [(0, (Vv n As Ka)), (1, (Zv q Kq)), (2, (Vv n Bs Kb))]) Tryz.func40 rfl Tryz.ntmps40 (by simp) (args_cons rfl (h) (args_cons rfl (hz0) (args_cons rfl (hv) args_nil))) ?_
 intro a0 S0
 refine wq [.new (q3z1b0 Kq q), .val (Is (.slice none 0 0))] [.inl 0] [.inr 0, .inr 2] S0 ?_ ?_
 ·refine ⟨⟨trivial, ?_⟩, ?_⟩
  ·exact owe_box rfl wA rfl (oS 1 1) rfl (fun ρ w h => box_int shp_zv ρ _ _ w h)
  ·exact mC
 intro B1 a1 W1 (S1 : Sta w 30 [(4, (q3z1b0 Kq q))] [(0, Vv n As Ka), (2, Vv n Bs Kb)] _ _ _)
 refine wq [.new (.row 41 2 0 (CE 2 ((((List.zipWith (fun a b => a + q * b) As Bs).map ZN).map (· w.heap.size)).take 0)))] [.inr 0, .inl 0] [.inr 0, .inr 1] S1 ?_ ?_
 ·refine ⟨trivial, ?_⟩
  ·exact owe_nilrow rfl wA rfl rfl ce_nil
 intro B2 a2 W2 (S2 : Sta w 30 [(4, (q3z1b0 Kq q)), (7, (.row 41 2 0 (CE 2 ((((List.zipWith (fun a b => a + q * b) As Bs).map ZN).map (· w.heap.size)).take 0))))] [(0, Vv n As Ka), (2, Vv n Bs Kb)] _ _ _)
 refine wp_seq ?_
 refine wq [.val (iV 0)] [.inr 0, .inr 1] [.inl 0, .inr 0, .inr 1] S2 ?_ ?_
 ·refine ⟨trivial, ?_⟩
  ·exact mC
 intro B3 a3 W3 (S3 : Sta w 30 [(4, (q3z1b0 Kq q)), (7, (.row 41 2 0 (CE 2 ((((List.zipWith (fun a b => a + q * b) As Bs).map ZN).map (· w.heap.size)).take 0))))] [(8, iV 0), (0, Vv n As Ka), (2, Vv n Bs Kb)] _ _ _)
 refine wp_block ?_
 refine wp_loop_ghost (fun (k0 : Nat) a W => (k0 ≤ n) ∧ ∃ Bq, Sta w 30 [(4, (q3z1b0 Kq q)), (7, (.row 41 2 k0 (CE 2 ((((List.zipWith (fun a b => a + q * b) As Bs).map ZN).map (· w.heap.size)).take k0))))] [(8, iV k0), (0, Vv n As Ka), (2, Vv n Bs Kb)] Bq a W) (fun (k0 : Nat) => n - k0) ?_ 0 ⟨Nat.zero_le _, B3, S3.sub [0, 1] [0, 1, 2]⟩
 rintro k0 a4 W4 ⟨hcond, B4, S4⟩
 by_cases hlt : k0 < n
 ·obtain ⟨a, ha⟩ : ∃ a, As[k0]? = some a := ⟨As[k0]'(by omega), List.getElem?_eq_getElem _⟩
  obtain ⟨b, hb⟩ : ∃ b, Bs[k0]? = some b := ⟨Bs[k0]'(by omega), List.getElem?_eq_getElem _⟩
  have hz := zip_get' (fun a b => a + q * b) ha hb
  have htk : (((List.zipWith (fun a b => a + q * b) As Bs).map ZN).map (· w.heap.size)).take (k0 + 1) = (((List.zipWith (fun a b => a + q * b) As Bs).map ZN).map (· w.heap.size)).take k0 ++ [ZN (a + q * b) w.heap.size] := by rw [List.take_add_one, map_get' _ (map_get' _ hz)]; rfl
  have dQ : (digs (q * b).natAbs).length ≤ Kq + Kb := digs_mulZ hq (vv_dl hv.now k0 b hb)
  refine wp_seq ?_
  refine wq [.val (iV k0), .val (Vv n As Ka), .val (iV (n : Nat)), kT] [.inr 0, .inr 1] [.inl 3, .inr 0, .inr 1, .inr 2] S4 ?_ ?_
  ·refine ⟨⟨⟨⟨trivial, ?_⟩, ?_⟩, ?_⟩, ?_⟩
   ·exact mS 0 8
   ·exact mS 1 0
   ·exact owe_len rfl wA rfl (oO 1 10) ar_len Tryz.underlying24 rfl
   ·exact b_lss_int_t wA (oO 0 9) (oO 2 11)
  intro B5 a5 W5 (S5 : Sta w 30 [(4, (q3z1b0 Kq q)), (7, (.row 41 2 k0 (CE 2 ((((List.zipWith (fun a b => a + q * b) As Bs).map ZN).map (· w.heap.size)).take k0))))] [(12, bT), (8, iV k0), (0, Vv n As Ka), (2, Vv n Bs Kb)] _ _ _)
  refine wp_cond_true (S5.bool 0 12 rfl) (wp_skip (thenN (wp_seq (wp_block ?_))))
  refine wr [.val (Is (a5.eval (.tmp 7))), .val (Vv n As Ka), .val (iV k0), .val (AtE 2 (Zv a Ka)), .val (Zv a Ka), .val (Zv q Kq), .val (Vv n Bs Kb), .val (iV k0), .val (AtE 2 (Zv b Kb)), .val (Zv b Kb), .val ((ZN (q * b)) w.heap.size), .val ((ZN (a + (q * b))) w.heap.size), .val (Sng 41 2 ((ZN (a + (q * b))) w.heap.size) w.heap.size), .mov 7 (.row 41 2 (k0 + 1) (CE 2 ((((List.zipWith (fun a b => a + q * b) As Bs).map ZN).map (· w.heap.size)).take (k0 + 1)))), .ref 13] [.inr 0, .inl 14] [.inr 1, .inr 2, .inr 3] S5 ?_ ?_
  ·repeat' refine And.intro ?_ ?_
   ·trivial
   ·exact owe_same rfl wA (Or.inl rfl) (by kernel_rfl) rfl
   ·exact mS 2 0
   ·exact mS 1 8
   ·exact owe_aindex rfl wA rfl idx_ints (oO 1 16) (oO 2 17) (map_get' _ ha) rfl
   ·exact owe_aload rfl wA rfl ldr_int (by decide) (cel_shp (by decide) shp_zv) (oO 3 18) rfl
   ·exact lod 0 wA (loads_of strct_int shp_zv)
   ·exact mS 3 2
   ·exact mS 1 8
   ·exact owe_aindex rfl wA rfl idx_ints (oO 6 21) (oO 7 22) (map_get' _ hb) rfl
   ·exact owe_aload rfl wA rfl ldr_int (by decide) (cel_shp (by decide) shp_zv) (oO 8 23) rfl
   ·exact cc2 wA (qO 5 20 rfl) (qO 9 24 rfl) (fresh_zn _) (fun w u v h1 h2 => g_rmul (by omega) w u v ((fun _ _ h => h) _ _ h1) ((fun _ _ h => h) _ _ h2))
   ·exact cc2 wA (qO 4 19 rfl) (qO 10 25 rfl) (fresh_zn _) (fun w u v h1 h2 => g_radd (by omega) (by omega) w u v ((fun _ _ h => h) _ _ h1) ((zn_zv dQ) _ _ h2))
   ·exact owe_b1 rfl wA rfl bld_int (oO 11 26) (cel_shp (by decide) shp_zn) rfl
   ·exact owe_append rfl wA rfl (oO 0 15) (k := 1) rfl (by kernel_rfl) ((oO 12 27).imp b1_src) einf_int Tryz.underlying24 (by decide) ⟨by unfold maxLen; omega, by omega⟩ rfl (fun xs ys w h1 h2 => by rw [htk]; exact ce_append xs ys w h1 h2)
   ·exact owe_ref 13 rfl wA (Or.inr rfl) (by kernel_rfl) rfl rfl
  intro B6 a6 W6 (S6 : Sta w 30 [(4, (q3z1b0 Kq q)), (7, (.row 41 2 (k0 + 1) (CE 2 ((((List.zipWith (fun a b => a + q * b) As Bs).map ZN).map (· w.heap.size)).take (k0 + 1)))))] [(8, iV k0), (0, Vv n As Ka), (2, Vv n Bs Kb)] _ _ _)
  refine inBlkN (thenN ?_)
  refine wr [.val (iV k0), .val (iV (k0 + 1 : Nat)), .val (iV (k0 + 1 : Nat))] [.inr 0, .inr 1] [.inl 2, .inr 1, .inr 2] S6 ?_ ?_
  ·refine ⟨⟨⟨trivial, ?_⟩, ?_⟩, ?_⟩
   ·exact mS 0 8
   ·exact b_add_int wA (oO 0 13) (opnd_const _)
   ·exact mO 1 14
  intro B7 a7 W7 (S7 : Sta w 30 [(4, (q3z1b0 Kq q)), (7, (.row 41 2 (k0 + 1) (CE 2 ((((List.zipWith (fun a b => a + q * b) As Bs).map ZN).map (· w.heap.size)).take (k0 + 1)))))] [(8, iV (k0 + 1 : Nat)), (0, Vv n As Ka), (2, Vv n Bs Kb)] _ _ _)
  refine thenN ?_
  exact ⟨k0 + 1, ⟨by omega, B7, S7.sub [0, 1] [0, 1, 2]⟩, by omega⟩
 ·have ek : n = k0 := by omega
  have hend : (((List.zipWith (fun a b => a + q * b) As Bs).map ZN).map (· w.heap.size)).take k0 = ((List.zipWith (fun a b => a + q * b) As Bs).map ZN).map (· w.heap.size) := List.take_of_length_le (by simp; omega)
  refine wp_seq ?_
  refine wq [.val (iV k0), .val (Vv n As Ka), .val (iV (n : Nat)), kF] [.inr 0, .inr 1] [.inl 3, .inr 0, .inr 1, .inr 2] S4 ?_ ?_
  ·refine ⟨⟨⟨⟨trivial, ?_⟩, ?_⟩, ?_⟩, ?_⟩
   ·exact mS 0 8
   ·exact mS 1 0
   ·exact owe_len rfl wA rfl (oO 1 10) ar_len Tryz.underlying24 rfl
   ·exact b_lss_int_f wA (oO 0 9) (oO 2 11)
  intro B5 a5 W5 (S5 : Sta w 30 [(4, (q3z1b0 Kq q)), (7, (.row 41 2 k0 (CE 2 ((((List.zipWith (fun a b => a + q * b) As Bs).map ZN).map (· w.heap.size)).take k0))))] [(12, bF), (8, iV k0), (0, Vv n As Ka), (2, Vv n Bs Kb)] _ _ _)
  refine wp_cond_false (S5.bool 0 12 rfl) (wp_exit (thenX (thenX (inBlkE (thenN ?_)))))
  obtain ⟨B6, S6⟩ : ∃ Bq, Sta w 30 [(4, (q3z1b0 Kq q))] [(7, ((VN n (List.zipWith (fun a b => a + q * b) As Bs)) w.heap.size)), (12, bF), (8, iV k0), (0, Vv n As Ka), (2, Vv n Bs Kb)] Bq a5 W5 := ⟨_, S5.freeze 1 rfl (by simp) (fun v w' xs ho hc => by rw [hend] at hc; rw [ek]; exact row_lf (by decide) v w' xs ho hc)⟩
  obtain ⟨a6, W6, e1, e2⟩ : ∃ a W, a5 = a ∧ W5 = W := ⟨_, _, rfl, rfl⟩
  rw [e1, e2] at S6 ⊢
  clear e1 e2
  refine wq [.val ((VN n (List.zipWith (fun a b => a + q * b) As Bs)) w.heap.size), .val ((VN n (List.zipWith (fun a b => a + q * b) As Bs)) w.heap.size)] [.inr 0] [.inl 1, .inr 0, .inr 2, .inr 3, .inr 4] S6 ?_ ?_
  ·refine ⟨⟨trivial, ?_⟩, ?_⟩
   ·exact mS 0 7
   ·exact mO 0 29
  intro B7 a7 W7 (S7 : Sta w 30 [(4, (q3z1b0 Kq q))] [(6, ((VN n (List.zipWith (fun a b => a + q * b) As Bs)) w.heap.size)), (7, ((VN n (List.zipWith (fun a b => a + q * b) As Bs)) w.heap.size)), (8, iV k0), (0, Vv n As Ka), (2, Vv n Bs Kb)] _ _ _)
  refine wp_ret ?_
  exact end_one S7 rfl (res_tmp S7 0 6 rfl)

set_option maxHeartbeats 2000000 in
theorem r5pr_w (w : World) (u v : Value) (n wd K Kb : Nat) (x : List Int) (Bm : List (List Int)) (h : Hs w (Mv 1 [x] K) u) (hv : Hs w (Mv n Bm Kb) v) (h0 : 0 < n) (hn : n ≤ 1048576) (hw : wd ≤ 1048576) (hK : K ≤ 8388608) (hK2 : Kb ≤ 8388608) (lx : x.length = n) (lB : Bm.length = n) (hrx : ∀ k, k < n → (Bm.getD k []).length = wd) (hx0 : Dl x K) (hb0 : Mdl Bm Kb) :
  Calls Tryz.prog 17 #[u, v] w (Gives (MN 1 ([cb x Bm wd n])) w) := by
 have hxk : ∀ k, (digs (x.getD k 0).natAbs).length ≤ K := fun k => by
  rw [List.getD_eq_getElem?_getD]
  cases e : x[k]? with
  | none => simp [show (0 : Int).natAbs = 0 from rfl, digs_zero]
  | some z => exact hx0 k z e
 refine calls_sta (sl := [(0, (Mv 1 ([x]) K)), (1, (Mv n Bm Kb))]) Tryz.func17 rfl Tryz.ntmps17 (by simp) (args_cons rfl (h) (args_cons rfl (hv) args_nil)) ?_
 intro a0 S0
 refine wq [.val (Is (.slice none 0 0))] [] [.inr 0, .inr 1] S0 ?_ ?_
 ·refine ⟨trivial, ?_⟩
  ·exact mC
 intro B1 a1 W1 (S1 : Sta w 47 [] [(0, Mv 1 ([x]) K), (1, Mv n Bm Kb)] _ _ _)
 refine wq [.new (.row 24 1 0 (CE 1 ((if 0 = 0 then [] else [VN wd (cb x Bm wd n) w.heap.size]))))] [.inl 0] [.inr 0, .inr 1] S1 ?_ ?_
 ·refine ⟨trivial, ?_⟩
  ·exact owe_nilrow rfl wA rfl rfl ce_nil
 intro B2 a2 W2 (S2 : Sta w 47 [(5, (.row 24 1 0 (CE 1 ((if 0 = 0 then [] else [VN wd (cb x Bm wd n) w.heap.size])))))] [(0, Mv 1 ([x]) K), (1, Mv n Bm Kb)] _ _ _)
 refine wp_seq ?_
 refine wq [.val (iV 0)] [.inr 0] [.inl 0, .inr 0, .inr 1] S2 ?_ ?_
 ·refine ⟨trivial, ?_⟩
  ·exact mC
 intro B3 a3 W3 (S3 : Sta w 47 [(5, (.row 24 1 0 (CE 1 ((if 0 = 0 then [] else [VN wd (cb x Bm wd n) w.heap.size])))))] [(6, iV 0), (0, Mv 1 ([x]) K), (1, Mv n Bm Kb)] _ _ _)
 refine wp_block ?_
 refine wp_loop_ghost (fun (i0 : Nat) a W => (i0 ≤ 1) ∧ ∃ Bq, Sta w 47 [(5, (.row 24 1 i0 (CE 1 ((if i0 = 0 then [] else [VN wd (cb x Bm wd n) w.heap.size])))))] [(6, iV (i0 : Nat)), (0, Mv 1 ([x]) K), (1, Mv n Bm Kb)] Bq a W) (fun (i0 : Nat) => 1 - i0) ?_ 0 ⟨Nat.zero_le _, B3, S3.sub [0] [0, 1, 2]⟩
 rintro i0 a4 W4 ⟨hcond, B4, S4⟩
 by_cases hlt : i0 < 1
 ·have ei : i0 = 0 := by omega
  refine wp_seq ?_
  refine wq [.val (iV (i0 : Nat)), .val (Mv 1 ([x]) K), .val (iV (1 : Nat)), kT] [.inr 0] [.inl 3, .inr 0, .inr 1, .inr 2] S4 ?_ ?_
  ·refine ⟨⟨⟨⟨trivial, ?_⟩, ?_⟩, ?_⟩, ?_⟩
   ·exact mS 0 6
   ·exact mS 1 0
   ·exact owe_len rfl wA rfl (oO 1 10) ar_len Tryz.underlying22 rfl
   ·exact b_lss_int_t wA (oO 0 9) (oO 2 11)
  intro B5 a5 W5 (S5 : Sta w 47 [(5, (.row 24 1 i0 (CE 1 ((if i0 = 0 then [] else [VN wd (cb x Bm wd n) w.heap.size])))))] [(12, bT), (6, iV (i0 : Nat)), (0, Mv 1 ([x]) K), (1, Mv n Bm Kb)] _ _ _)
  refine wp_cond_true (S5.bool 0 12 rfl) (wp_skip (thenN (wp_seq (wp_block ?_))))
  refine wq [.val (Mv n Bm Kb), .val (AtE 1 (Vv wd (Bm.getD 0 []) Kb)), .val (Vv wd (Bm.getD 0 []) Kb), .val (iV (wd : Nat)), .new (.row 41 2 wd (CE 2 (List.replicate wd zI))), .ref 4] [.inr 0, .inl 5] [.inr 1, .inr 2, .inr 3] S5 ?_ ?_
  ·refine ⟨⟨⟨⟨⟨⟨trivial, ?_⟩, ?_⟩, ?_⟩, ?_⟩, ?_⟩, ?_⟩
   ·exact mS 3 1
   ·exact owe_aindex rfl wA rfl idx_rows (oO 0 15) (opnd_const _) (by have q := vv_at (A := Bm) (K := Kb) (k := 0) (by omega); rw [hrx 0 (by omega)] at q; exact q) rfl
   ·exact owe_aload rfl wA rfl ldr_row1 (by decide) cel_vv (oO 1 16) rfl
   ·exact owe_len rfl wA rfl (oO 2 17) ar_len Tryz.underlying24 rfl
   ·exact owe_makeE rfl wA rfl Tryz.underlying24 infoInt celv_z0 (by decide) (oO 3 18) ⟨by omega, by unfold maxLen; omega⟩ rfl
   ·exact owe_ref 4 rfl wA (Or.inr rfl) (by kernel_rfl) rfl rfl
  intro B6 a6 W6 (S6 : Sta w 47 [(5, (.row 24 1 i0 (CE 1 ((if i0 = 0 then [] else [VN wd (cb x Bm wd n) w.heap.size]))))), (7, (.row 41 2 wd (CE 2 (List.replicate wd zI))))] [(6, iV (i0 : Nat)), (0, Mv 1 ([x]) K), (1, Mv n Bm Kb)] _ _ _)
  refine wp_seq ?_
  obtain ⟨B7, S7⟩ : ∃ Bq, Sta w 47 [(5, (.row 24 1 i0 (CE 1 ((if i0 = 0 then [] else [VN wd (cb x Bm wd n) w.heap.size])))))] [(7, ((VN wd (cb x Bm wd 0)) w.heap.size)), (6, iV (i0 : Nat)), (0, Mv 1 ([x]) K), (1, Mv n Bm Kb)] Bq a6 W6 := ⟨_, S6.freeze 1 rfl (by simp) (fun v w' xs ho hc => by rw [cb_zero]; exact row_lf (by decide) v w' xs ho (ce_zeroL hc))⟩
  obtain ⟨a7, W7, e1, e2⟩ : ∃ a W, a6 = a ∧ W6 = W := ⟨_, _, rfl, rfl⟩
  rw [e1, e2] at S7 ⊢
  clear e1 e2
  refine wq [.val (iV 0)] [.inr 0] [.inl 0, .inr 0, .inr 1, .inr 2, .inr 3] S7 ?_ ?_
  ·refine ⟨trivial, ?_⟩
   ·exact mC
  intro B8 a8 W8 (S8 : Sta w 47 [(5, (.row 24 1 i0 (CE 1 ((if i0 = 0 then [] else [VN wd (cb x Bm wd n) w.heap.size])))))] [(8, iV 0), (7, ((VN wd (cb x Bm wd 0)) w.heap.size)), (6, iV (i0 : Nat)), (0, Mv 1 ([x]) K), (1, Mv n Bm Kb)] _ _ _)
  refine wp_block ?_
  refine wp_loop_ghost (fun (k0 : Nat) a W => (k0 ≤ n) ∧ ∃ Bq, Sta w 47 [(5, (.row 24 1 i0 (CE 1 ((if i0 = 0 then [] else [VN wd (cb x Bm wd n) w.heap.size])))))] [(8, iV (k0 : Nat)), (7, ((VN wd (cb x Bm wd k0)) w.heap.size)), (6, iV (i0 : Nat)), (0, Mv 1 ([x]) K), (1, Mv n Bm Kb)] Bq a W) (fun (k0 : Nat) => n - k0) ?_ 0 ⟨Nat.zero_le _, B8, S8.sub [0] [0, 1, 2, 3, 4]⟩
  rintro k0 a9 W9 ⟨hcond, B9, S9⟩
  by_cases hlk : k0 < n
  ·skip
   refine wp_seq ?_
   refine wq [.val (iV (k0 : Nat)), .val (Mv 1 ([x]) K), .val (iV (i0 : Nat)), .val (AtE 1 (Vv (x.length) x K)), .val (Vv (x.length) x K), .val (iV (x.length : Nat)), kT] [.inr 0] [.inl 6, .inr 0, .inr 1, .inr 2, .inr 3, .inr 4] S9 ?_ ?_
   ·repeat' refine And.intro ?_ ?_
    ·trivial
    ·exact mS 0 8
    ·exact mS 3 0
    ·exact mS 2 6
    ·exact owe_aindex rfl wA rfl idx_rows (oO 1 21) (oO 2 22) (by rw [ei]; rfl) rfl
    ·exact owe_aload rfl wA rfl ldr_row1 (by decide) cel_vv (oO 3 23) rfl
    ·exact owe_len rfl wA rfl (oO 4 24) ar_len Tryz.underlying24 rfl
    ·exact b_lss_int_t wA (oO 0 20) (oO 5 25)
   intro B10 a10 W10 (S10 : Sta w 47 [(5, (.row 24 1 i0 (CE 1 ((if i0 = 0 then [] else [VN wd (cb x Bm wd n) w.heap.size])))))] [(26, bT), (8, iV (k0 : Nat)), (7, ((VN wd (cb x Bm wd k0)) w.heap.size)), (6, iV (i0 : Nat)), (0, Mv 1 ([x]) K), (1, Mv n Bm Kb)] _ _ _)
   refine wp_cond_true (S10.bool 0 26 rfl) (wp_skip (thenN (wp_seq (wp_block ?_))))
   refine wr [.val ((VN wd (cb x Bm wd k0)) w.heap.size), .val (Mv 1 ([x]) K), .val (iV (i0 : Nat)), .val (AtE 1 (Vv (x.length) x K)), .val (Vv (x.length) x K), .val (iV (k0 : Nat)), .val (AtE 2 (Zv (x.getD k0 0) K)), .val (Zv (x.getD k0 0) K), .val (Mv n Bm Kb), .val (iV (k0 : Nat)), .val (AtE 1 (Vv wd (Bm.getD k0 []) Kb)), .val (Vv wd (Bm.getD k0 []) Kb), .val ((VN wd (cb x Bm wd (k0 + 1))) w.heap.size), .val ((VN wd (cb x Bm wd (k0 + 1))) w.heap.size)] [.inr 0] [.inl 13, .inr 1, .inr 3, .inr 4, .inr 5] S10 ?_ ?_
   ·repeat' refine And.intro ?_ ?_
    ·trivial
    ·exact mS 2 7
    ·exact mS 4 0
    ·exact mS 3 6
    ·exact owe_aindex rfl wA rfl idx_rows (oO 1 30) (oO 2 31) (by rw [ei]; rfl) rfl
    ·exact owe_aload rfl wA rfl ldr_row1 (by decide) cel_vv (oO 3 32) rfl
    ·exact mS 1 8
    ·exact owe_aindex rfl wA rfl idx_ints (oO 4 33) (oO 5 34) (zv_at (by omega)) rfl
    ·exact owe_aload rfl wA rfl ldr_int (by decide) (cel_shp (by decide) shp_zv) (oO 6 35) rfl
    ·exact mS 5 1
    ·exact mS 1 8
    ·exact owe_aindex rfl wA rfl idx_rows (oO 8 37) (oO 9 38) (by have q := vv_at (A := Bm) (K := Kb) (k := k0) (by omega); rw [hrx k0 (by omega)] at q; exact q) rfl
    ·exact owe_aload rfl wA rfl ldr_row1 (by decide) cel_vv (oO 10 39) rfl
    ·exact owe_callh3 rfl wA rfl ((oO 0 29).imp (vn_vv (cb_dl hx0 hb0 k0 (by omega)))) (oO 7 36) (oO 11 40) fresh_vn rfl (fun args w => by go_simp) (fun w u0 u1 u2 h0 h1 h2 => Gives.cast (r5gr_w w u0 u1 u2 wd (K + Kb + n) K Kb (x.getD k0 0) (cb x Bm wd k0) (Bm.getD k0 []) h0 h1 h2 (by omega) (by omega) (hxk k0) (by omega)) (by rw [cb_step x Bm (hrx k0 (by omega))]))
    ·exact mO 12 41
   intro B11 a11 W11 (S11 : Sta w 47 [(5, (.row 24 1 i0 (CE 1 ((if i0 = 0 then [] else [VN wd (cb x Bm wd n) w.heap.size])))))] [(7, ((VN wd (cb x Bm wd (k0 + 1))) w.heap.size)), (8, iV (k0 : Nat)), (6, iV (i0 : Nat)), (0, Mv 1 ([x]) K), (1, Mv n Bm Kb)] _ _ _)
   refine inBlkN (thenN ?_)
   refine wr [.val (iV (k0 : Nat)), .val (iV (k0 + 1 : Nat)), .val (iV (k0 + 1 : Nat))] [.inr 0] [.inl 2, .inr 0, .inr 2, .inr 3, .inr 4] S11 ?_ ?_
   ·refine ⟨⟨⟨trivial, ?_⟩, ?_⟩, ?_⟩
    ·exact mS 1 8
    ·exact b_add_int wA (oO 0 27) (opnd_const _)
    ·exact mO 1 28
   intro B12 a12 W12 (S12 : Sta w 47 [(5, (.row 24 1 i0 (CE 1 ((if i0 = 0 then [] else [VN wd (cb x Bm wd n) w.heap.size])))))] [(8, iV (k0 + 1 : Nat)), (7, ((VN wd (cb x Bm wd (k0 + 1))) w.heap.size)), (6, iV (i0 : Nat)), (0, Mv 1 ([x]) K), (1, Mv n Bm Kb)] _ _ _)
   refine thenN ?_
   exact ⟨k0 + 1, ⟨by omega, B12, S12.sub [0] [0, 1, 2, 3, 4]⟩, by omega⟩
  ·have ek : k0 = n := by omega
   rw [ek] at S9
   refine wp_seq ?_
   refine wq [.val (iV (n : Nat)), .val (Mv 1 ([x]) K), .val (iV (i0 : Nat)), .val (AtE 1 (Vv (x.length) x K)), .val (Vv (x.length) x K), .val (iV (x.length : Nat)), kF] [.inr 0] [.inl 6, .inr 0, .inr 1, .inr 2, .inr 3, .inr 4] S9 ?_ ?_
   ·repeat' refine And.intro ?_ ?_
    ·trivial
    ·exact mS 0 8
    ·exact mS 3 0
    ·exact mS 2 6
    ·exact owe_aindex rfl wA rfl idx_rows (oO 1 21) (oO 2 22) (by rw [ei]; rfl) rfl
    ·exact owe_aload rfl wA rfl ldr_row1 (by decide) cel_vv (oO 3 23) rfl
    ·exact owe_len rfl wA rfl (oO 4 24) ar_len Tryz.underlying24 rfl
    ·exact b_lss_int_f wA (oO 0 20) (oO 5 25)
   intro B10 a10 W10 (S10 : Sta w 47 [(5, (.row 24 1 i0 (CE 1 ((if i0 = 0 then [] else [VN wd (cb x Bm wd n) w.heap.size])))))] [(26, bF), (8, iV (n : Nat)), (7, ((VN wd (cb x Bm wd n)) w.heap.size)), (6, iV (i0 : Nat)), (0, Mv 1 ([x]) K), (1, Mv n Bm Kb)] _ _ _)
   refine wp_cond_false (S10.bool 0 26 rfl) (wp_exit (thenX (thenX (inBlkE (thenN ?_)))))
   refine wr [.val (Is (a10.eval (.tmp 5))), .val ((VN wd (cb x Bm wd n)) w.heap.size), .val (Sng 24 1 ((VN wd (cb x Bm wd n)) w.heap.size) w.heap.size), .mov 5 (.row 24 1 (i0 + 1) (CE 1 ((if (i0 + 1) = 0 then [] else [VN wd (cb x Bm wd n) w.heap.size])))), .ref 3] [.inl 4] [.inr 1, .inr 2, .inr 3, .inr 4, .inr 5] S10 ?_ ?_
   ·refine ⟨⟨⟨⟨⟨trivial, ?_⟩, ?_⟩, ?_⟩, ?_⟩, ?_⟩
    ·exact owe_same rfl wA (Or.inl rfl) (by kernel_rfl) rfl
    ·exact mS 2 7
    ·exact owe_b1 rfl wA rfl bld_row1 (oO 1 43) cel_vn rfl
    ·exact owe_append rfl wA rfl (oO 0 42) (k := 0) rfl (by kernel_rfl) ((oO 2 44).imp b1_src) einf_row1 Tryz.underlying22 (by decide) ⟨by unfold maxLen; omega, by omega⟩ rfl (fun xs ys w h1 h2 => by rw [ei] at h1 ⊢; exact ce_append _ _ _ h1 h2)
    ·exact owe_ref 3 rfl wA (Or.inr rfl) (by kernel_rfl) rfl rfl
   intro B11 a11 W11 (S11 : Sta w 47 [(5, (.row 24 1 (i0 + 1) (CE 1 ((if (i0 + 1) = 0 then [] else [VN wd (cb x Bm wd n) w.heap.size])))))] [(8, iV (n : Nat)), (7, ((VN wd (cb x Bm wd n)) w.heap.size)), (6, iV (i0 : Nat)), (0, Mv 1 ([x]) K), (1, Mv n Bm Kb)] _ _ _)
   refine inBlkN (thenN ?_)
   refine wr [.val (iV (i0 : Nat)), .val (iV (i0 + 1 : Nat)), .val (iV (i0 + 1 : Nat))] [.inr 0] [.inl 2, .inr 0, .inr 1, .inr 3, .inr 4] S11 ?_ ?_
   ·refine ⟨⟨⟨trivial, ?_⟩, ?_⟩, ?_⟩
    ·exact mS 2 6
    ·exact b_add_int wA (oO 0 13) (opnd_const _)
    ·exact mO 1 14
   intro B12 a12 W12 (S12 : Sta w 47 [(5, (.row 24 1 (i0 + 1) (CE 1 ((if (i0 + 1) = 0 then [] else [VN wd (cb x Bm wd n) w.heap.size])))))] [(6, iV (i0 + 1 : Nat)), (8, iV (n : Nat)), (7, ((VN wd (cb x Bm wd n)) w.heap.size)), (0, Mv 1 ([x]) K), (1, Mv n Bm Kb)] _ _ _)
   refine thenN ?_
   exact ⟨i0 + 1, ⟨by omega, B12, S12.sub [0] [0, 3, 4]⟩, by omega⟩
 ·have ei1 : i0 = 1 := by omega
  refine wp_seq ?_
  refine wq [.val (iV (i0 : Nat)), .val (Mv 1 ([x]) K), .val (iV (1 : Nat)), kF] [.inr 0] [.inl 3, .inr 0, .inr 1, .inr 2] S4 ?_ ?_
  ·refine ⟨⟨⟨⟨trivial, ?_⟩, ?_⟩, ?_⟩, ?_⟩
   ·exact mS 0 6
   ·exact mS 1 0
   ·exact owe_len rfl wA rfl (oO 1 10) ar_len Tryz.underlying22 rfl
   ·exact b_lss_int_f wA (oO 0 9) (oO 2 11)
  intro B5 a5 W5 (S5 : Sta w 47 [(5, (.row 24 1 i0 (CE 1 ((if i0 = 0 then [] else [VN wd (cb x Bm wd n) w.heap.size])))))] [(12, bF), (6, iV (i0 : Nat)), (0, Mv 1 ([x]) K), (1, Mv n Bm Kb)] _ _ _)
  refine wp_cond_false (S5.bool 0 12 rfl) (wp_exit (thenX (thenX (inBlkE (thenN ?_)))))
  obtain ⟨B6, S6⟩ : ∃ Bq, Sta w 47 [] [(5, ((MN 1 ([cb x Bm wd n])) w.heap.size)), (12, bF), (6, iV (i0 : Nat)), (0, Mv 1 ([x]) K), (1, Mv n Bm Kb)] Bq a5 W5 := ⟨_, S5.freeze 0 rfl (by simp) (fun v w' xs ho hc => by rw [ei1] at ho hc; show LF 1 1 [VN (cb x Bm wd n).length (cb x Bm wd n)] w.heap.size v w'; rw [cb_len]; exact row_lf (ψs := [VN wd (cb x Bm wd n)]) (by decide) v w' xs ho hc)⟩
  obtain ⟨a6, W6, e1, e2⟩ : ∃ a W, a5 = a ∧ W5 = W := ⟨_, _, rfl, rfl⟩
  rw [e1, e2] at S6 ⊢
  clear e1 e2
  refine wq [.val ((MN 1 ([cb x Bm wd n])) w.heap.size), .val ((MN 1 ([cb x Bm wd n])) w.heap.size)] [] [.inl 1, .inr 0, .inr 2, .inr 3, .inr 4] S6 ?_ ?_
  ·refine ⟨⟨trivial, ?_⟩, ?_⟩
   ·exact mS 0 5
   ·exact mO 0 46
  intro B7 a7 W7 (S7 : Sta w 47 [] [(4, ((MN 1 ([cb x Bm wd n])) w.heap.size)), (5, ((MN 1 ([cb x Bm wd n])) w.heap.size)), (6, iV (i0 : Nat)), (0, Mv 1 ([x]) K), (1, Mv n Bm Kb)] _ _ _)
  refine wp_ret ?_
  exact end_one S7 rfl (res_tmp S7 0 4 rfl)

end Go.Proofs.YtddjoigjdolafaaGreat

/-
 GsoLengths' walk: it returns true and writes nothing that was there.
-/
namespace Go.Proofs.YtddjoigjdolafaaGreat
open Go Go.RowKit Nt
set_option linter.unusedSimpArgs false
set_option linter.unusedVariables false
set_option maxRecDepth 20000

abbrev qwywe0  : Rk := .box 26 (Is (.agg #[.slice none 0 0, .slice none 0 0]))
set_option maxHeartbeats 2000000 in
theorem gl_e (w : World) (u v : Value) (n m K Kb : Nat) (Bm : List (List Int)) (x : List Int) (h : Hs w (Mv n Bm Kb) u) (hv : Hs w (Vv m x K) v) (hn : n ≤ 1048576) (hm : m ≤ 1048576) (e0 : Int) (he : e0 ≠ 0) (hof : OfGives n Kb Bm (TWO G0 (IS (.int .i64 e0)))) (hva : VaGives n Kb Bm e0) :
  Calls Tryz.prog 4 #[u, v] w (Gives (IS (.bool true)) w) := by
 refine calls_sta (sl := [(0, (Mv n Bm Kb)), (1, (Vv m x K))]) Tryz.func4 rfl Tryz.ntmps4 (by simp) (args_cons rfl (h) (args_cons rfl (hv) args_nil)) ?_
 intro a0 S0
 refine wq [kF] [] [.inr 0, .inr 1] S0 ?_ ?_
 ·refine ⟨trivial, ?_⟩
  ·exact mC
 intro B1 a1 W1 (S1 : Sta w 61 [] [(0, Mv n Bm Kb), (1, Vv m x K)] _ _ _)
 refine wp_seq ?_
 refine wq [kT, kF] [] [.inl 1, .inr 0, .inr 1] S1 ?_ ?_
 ·refine ⟨⟨trivial, ?_⟩, ?_⟩
  ·exact owe_call0 rfl wA rfl  (fresh_is _) rfl (fun args w => by go_simp) (fun w => gawake_w w)
  ·exact b_not wA (oO 0 10)
 intro B2 a2 W2 (S2 : Sta w 61 [] [(11, bF), (0, Mv n Bm Kb), (1, Vv m x K)] _ _ _)
 refine wp_cond_false (S2.bool 0 11 rfl) (wp_skip (thenN ?_))
 refine wq [.val (Mv n Bm Kb), .val ((TWO (IS (.agg #[.slice none 0 0, .slice none 0 0])) (IS (.int .i64 e0))) w.heap.size), .val ((TWO (IS (.agg #[.slice none 0 0, .slice none 0 0])) (IS (.int .i64 e0))) w.heap.size), .val (Is (.agg #[.slice none 0 0, .slice none 0 0])), .val (iV e0), .new (qwywe0), .put (.inr 5) (qwywe0), .val (iV e0)] [.inl 5] [.inl 7, .inr 1, .inr 2] S2 ?_ ?_
 ·repeat' refine And.intro ?_ ?_
  ·trivial
  ·exact mS 1 0
  ·exact ch1 wA (qO 0 13 rfl) (fresh_two (fresh_is _) (fresh_is _)) (fun w u h => hof w u h)
  ·exact mO 1 14
  ·exact e20 wA (oO 2 12)
  ·exact e21 wA (oO 2 12)
  ·exact owe_new rfl wA rfl rfl (fun ρ w => alloc_gso ρ _ w)
  ·exact owe_put 5 rfl wA rfl (by kernel_rfl) rfl (oO 3 15) (stores_of strct_gso shp_g0 shp_g0) rfl
  ·exact mO 4 16
 intro B3 a3 W3 (S3 : Sta w 61 [(5, (qwywe0))] [(6, iV e0), (0, Mv n Bm Kb), (1, Vv m x K)] _ _ _)
 refine wp_seq ?_
 refine wq [.val (Mv n Bm Kb), .val (iV e0), kT] [.inr 0] [.inl 2, .inr 0, .inr 1, .inr 2] S3 ?_ ?_
 ·refine ⟨⟨⟨trivial, ?_⟩, ?_⟩, ?_⟩
  ·exact mS 1 0
  ·exact ch1 wA (qO 0 17 rfl) (fresh_is _) (fun w u h => hva w u h)
  ·exact b_neq_int_t wA (oO 1 18) (opnd_const _) (h := he)
 intro B4 a4 W4 (S4 : Sta w 61 [(5, (qwywe0))] [(19, bT), (6, iV e0), (0, Mv n Bm Kb), (1, Vv m x K)] _ _ _)
 refine wp_cond_true (S4.bool 0 19 rfl) ?_
 replace S4 : Sta w 61 [(5, (.box 26 (SF [(Is (.slice none 0 0)), (Is (.slice none 0 0))])))] [(19, bT), (6, iV e0), (0, Mv n Bm Kb), (1, Vv m x K)] B4 a4 W4 := S4.reboxS 0 rfl zg_sf
 refine wq [.val (iV e0), kT, kT, .val (Part a4 5 0), .val (Is (.slice none 0 0)), .val (iV (0 : Nat)), kT, kT, kT] [.inr 0] [.inl 8] S4 ?_ ?_
 ·repeat' refine And.intro ?_ ?_
  ·trivial
  ·exact mS 1 6
  ·exact b_neq_errno_t wA (oO 0 20) (opnd_const _) (h := he)
  ·exact mO 1 21
  ·exact owe_part rfl (wI 2 22) rfl (k := 0) rfl (by kernel_rfl) rfl (fun ρ w b h => part_gso0 ρ _ _ w b 0 h)
  ·exact owe_pload rfl (wI 2 22) rfl (oO 3 23) (k := 0) rfl (by kernel_rfl) rfl (fun ρ w b u h1 h2 h3 => ploadS rfl load1_vec ρ _ _ w b u h1 h2 h3)
  ·exact owe_len rfl (wI 2 22) rfl (oO 4 24) is_len Tryz.underlying24 rfl
  ·exact b_eql_int_t (wI 2 22) (oO 5 25) (opnd_const _) (h := rfl)
  ·exact pT wA (oO 2 22) (oO 6 26)
  ·exact mO 7 27
 intro B5 a5 W5 (S5 : Sta w 61 [(5, (.box 26 (SF [(Is (.slice none 0 0)), (Is (.slice none 0 0))])))] [(4, bT)] _ _ _)
 refine wp_ret (thenR ?_)
 exact end_one S5 rfl (res_tmp S5 0 4 rfl)

abbrev qu9z30 (w : World) (n : Nat) (Bm : List (List Int)) : Rk := .box 26 (SF [((VN (n + 1) (gwD Bm n)) w.heap.size), ((MN n (gwL Bm n)) w.heap.size)])
set_option maxHeartbeats 2000000 in
theorem gl_s (w : World) (u v : Value) (n m K Kb : Nat) (Bm : List (List Int)) (x : List Int) (h : Hs w (Mv n Bm Kb) u) (hv : Hs w (Vv m x K) v) (hn : n ≤ 1048576) (hm : m ≤ 1048576) (hK1 : K ≤ 1048576) (hK2 : 196 ≤ K) (hok : OfOk Bm n) (hne : m ≠ n) (hof : OfGives n Kb Bm (TWO (GN n (gwD Bm n) (gwL Bm n)) (IS (.int .i64 0)))) (hva : VaGives n Kb Bm 0) :
  Calls Tryz.prog 4 #[u, v] w (Gives (IS (.bool true)) w) := by
 have dx := vv_dl hv.now
 have lx := vv_len hv.now
 have gd := gw_good hok
 have h12 := hok.top
 obtain ⟨dD, dL, hW⟩ := gl_ok hok
 have dD2 : Dl (gwD Bm n) K := fun i z hz => Nat.le_trans (dD i z hz) hK2
 have dL2 : Mdl (gwL Bm n) K := fun i r hr => fun j z hz => Nat.le_trans (dL i r hr j z hz) hK2
 refine calls_sta (sl := [(0, (Mv n Bm Kb)), (1, (Vv m x K))]) Tryz.func4 rfl Tryz.ntmps4 (by simp) (args_cons rfl (h) (args_cons rfl (hv) args_nil)) ?_
 intro a0 S0
 refine wq [kF] [] [.inr 0, .inr 1] S0 ?_ ?_
 ·refine ⟨trivial, ?_⟩
  ·exact mC
 intro B1 a1 W1 (S1 : Sta w 61 [] [(0, Mv n Bm Kb), (1, Vv m x K)] _ _ _)
 refine wp_seq ?_
 refine wq [kT, kF] [] [.inl 1, .inr 0, .inr 1] S1 ?_ ?_
 ·refine ⟨⟨trivial, ?_⟩, ?_⟩
  ·exact owe_call0 rfl wA rfl  (fresh_is _) rfl (fun args w => by go_simp) (fun w => gawake_w w)
  ·exact b_not wA (oO 0 10)
 intro B2 a2 W2 (S2 : Sta w 61 [] [(11, bF), (0, Mv n Bm Kb), (1, Vv m x K)] _ _ _)
 refine wp_cond_false (S2.bool 0 11 rfl) (wp_skip (thenN ?_))
 refine wq [.val (Mv n Bm Kb), .val ((TWO (GN n (gwD Bm n) (gwL Bm n)) (IS (.int .i64 0))) w.heap.size), .val ((TWO (GN n (gwD Bm n) (gwL Bm n)) (IS (.int .i64 0))) w.heap.size), .val (SF [((VN (n + 1) (gwD Bm n)) w.heap.size), ((MN n (gwL Bm n)) w.heap.size)]), .val (iV 0), .new (.box 26 (Is (.agg #[.slice none 0 0, .slice none 0 0]))), .put (.inr 5) (qu9z30 w n Bm), .val (iV 0)] [.inl 5] [.inl 7, .inr 1, .inr 2] S2 ?_ ?_
 ·repeat' refine And.intro ?_ ?_
  ·trivial
  ·exact mS 1 0
  ·exact ch1 wA (qO 0 13 rfl) (fresh_two fresh_gn (fresh_is _)) (fun w u h => hof w u h)
  ·exact mO 1 14
  ·exact e20 wA (oO 2 12)
  ·exact e21 wA (oO 2 12)
  ·exact owe_new rfl wA rfl rfl (fun ρ w => alloc_gso ρ _ w)
  ·exact owe_put 5 rfl wA rfl (by kernel_rfl) rfl (oO 3 15) (stores_of strct_gso shp_g0 shp_sf2) rfl
  ·exact mO 4 16
 intro B3 a3 W3 (S3 : Sta w 61 [(5, (qu9z30 w n Bm))] [(6, iV 0), (0, Mv n Bm Kb), (1, Vv m x K)] _ _ _)
 refine wp_seq ?_
 refine wq [.val (Mv n Bm Kb), .val (iV 0), kF] [.inr 0] [.inl 2, .inr 0, .inr 1, .inr 2] S3 ?_ ?_
 ·refine ⟨⟨⟨trivial, ?_⟩, ?_⟩, ?_⟩
  ·exact mS 1 0
  ·exact ch1 wA (qO 0 17 rfl) (fresh_is _) (fun w u h => hva w u h)
  ·exact b_neq_int_f wA (oO 1 18) (opnd_const _) (h := rfl)
 intro B4 a4 W4 (S4 : Sta w 61 [(5, (qu9z30 w n Bm))] [(19, bF), (6, iV 0), (0, Mv n Bm Kb), (1, Vv m x K)] _ _ _)
 refine wp_cond_false (S4.bool 0 19 rfl) (wp_skip (thenN ?_))
 refine wq [.val (SF [((VN (n + 1) (gwD Bm n)) w.heap.size), ((MN n (gwL Bm n)) w.heap.size)]), .val (Vv m x K), .val ((TWO (IS (.agg #[.bool false, .slice none 0 0, .bool false, .slice none 0 0])) (IS (.int .i64 8))) w.heap.size), .val ((TWO (IS (.agg #[.bool false, .slice none 0 0, .bool false, .slice none 0 0])) (IS (.int .i64 8))) w.heap.size), .val zR, .val (iV 8), .new (.box 43 zR), .put (.inr 6) (.box 43 zR), .val (iV 8)] [.inr 0, .inl 6] [.inl 8, .inr 1, .inr 2, .inr 3] S4 ?_ ?_
 ·repeat' refine And.intro ?_ ?_
  ·trivial
  ·exact lod 0 wA (loads_of strct_gso shp_sf2)
  ·exact mS 3 1
  ·exact ch2 wA ((qO 0 29 rfl).imp (sf_imp (vn_vv dD2) (mn_mv dL2))) (qO 1 30 rfl) (fresh_two (fresh_is _) (fresh_is _)) (fun w u0 u1 h0 h1 => nrm_s w u0 u1 (n + 1) n m K (gwD Bm n) x (gwL Bm n) h0 h1 (by omega) hn hm (by omega) (gw_len Bm n).1 (gw_len Bm n).2 lx gd hne)
  ·exact mO 2 31
  ·exact e20 wA (oO 3 28)
  ·exact e21 wA (oO 3 28)
  ·exact owe_new rfl wA rfl rfl (fun ρ w => alloc_rat ρ _ w)
  ·exact owe_put 6 rfl wA rfl (by kernel_rfl) rfl (oO 4 32) (stores_of strct_rat shp_r0 shp_r0) rfl
  ·exact mO 5 33
 intro B5 a5 W5 (S5 : Sta w 61 [(5, (qu9z30 w n Bm)), (7, (.box 43 zR))] [(8, iV 8), (6, iV 0), (0, Mv n Bm Kb), (1, Vv m x K)] _ _ _)
 refine wp_seq ?_
 refine wq [.val (Vv m x K), .val (iV (m : Nat)), .val (Mv n Bm Kb), .val (iV (n : Nat)), kT] [.inr 0, .inr 1] [.inl 4, .inr 0, .inr 1, .inr 2, .inr 3] S5 ?_ ?_
 ·refine ⟨⟨⟨⟨⟨trivial, ?_⟩, ?_⟩, ?_⟩, ?_⟩, ?_⟩
  ·exact mS 3 1
  ·exact owe_len rfl wA rfl (oO 0 34) ar_len Tryz.underlying24 rfl
  ·exact mS 2 0
  ·exact owe_len rfl wA rfl (oO 2 36) ar_len Tryz.underlying22 rfl
  ·exact b_neq_int_t wA (oO 1 35) (oO 3 37)
 intro B6 a6 W6 (S6 : Sta w 61 [(5, (qu9z30 w n Bm)), (7, (.box 43 zR))] [(38, bT), (8, iV 8), (6, iV 0), (0, Mv n Bm Kb), (1, Vv m x K)] _ _ _)
 refine wp_cond_true (S6.bool 0 38 rfl) ?_
 refine wq [.val (iV 8), kT, kT] [.inr 0] [.inl 2] S6 ?_ ?_
 ·refine ⟨⟨⟨trivial, ?_⟩, ?_⟩, ?_⟩
  ·exact mS 1 8
  ·exact b_eql_errno_t wA (oO 0 39) (opnd_const _) (h := rfl)
  ·exact mO 1 40
 intro B7 a7 W7 (S7 : Sta w 61 [(5, (qu9z30 w n Bm))] [(4, bT)] _ _ _)
 refine wp_ret (thenR ?_)
 exact end_one S7 rfl (res_tmp S7 0 4 rfl)

abbrev qop2e0 (w : World) (n : Nat) (Bm : List (List Int)) : Rk := .box 26 (SF [((VN (n + 1) (gwD Bm n)) w.heap.size), ((MN n (gwL Bm n)) w.heap.size)])
abbrev qop2e1 (w : World) (n : Nat) (Bm : List (List Int)) (x : List Int) : Pr := (VN ((cb x Bm (wd Bm) n).length) (cb x Bm (wd Bm) n)) w.heap.size
set_option maxHeartbeats 2000000 in
theorem gl_w (w : World) (u v : Value) (n K Kb : Nat) (Bm : List (List Int)) (x : List Int) (h : Hs w (Mv n Bm Kb) u) (hv : Hs w (Vv n x K) v) (hn : n ≤ 1048576) (hK1 : K ≤ 1048576) (hK2 : 196 ≤ K) (hok : OfOk Bm n) (hKn : K + n ≤ 1048576) (hKb : Kb ≤ 1048576) (hdl : Mdl Bm Kb) (hwd : wd Bm ≤ 1048576) (hrx : ∀ k, k < n → (Bm.getD k []).length = wd Bm) (hrl : ∀ k, (Bm.getD k []).length ≤ wd Bm) (hof : OfGives n Kb Bm (TWO (GN n (gwD Bm n) (gwL Bm n)) (IS (.int .i64 0)))) (hva : VaGives n Kb Bm 0) :
  Calls Tryz.prog 4 #[u, v] w (Gives (IS (.bool true)) w) := by
 have dx := vv_dl hv.now
 have lx := vv_len hv.now
 have gd := gw_good hok
 have h12 := hok.top
 obtain ⟨dD, dL, hW⟩ := gl_ok hok
 have dD2 : Dl (gwD Bm n) K := fun i z hz => Nat.le_trans (dD i z hz) hK2
 have dL2 : Mdl (gwL Bm n) K := fun i r hr => fun j z hz => Nat.le_trans (dL i r hr j z hz) hK2
 have cdl := cb_dl (wd := wd Bm) (n := n) dx hdl n (Nat.le_refl _)
 have hln : (digs (lnQ Bm x n).natAbs).length ≤ 8388608 := by rw [← cb_dot (x := x) (n := n) hrl]; exact Nat.le_trans (dot_dl cdl cdl (Nat.le_of_eq (cb_len x Bm (wd Bm) n))) (by omega)
 refine calls_sta (sl := [(0, (Mv n Bm Kb)), (1, (Vv n x K))]) Tryz.func4 rfl Tryz.ntmps4 (by simp) (args_cons rfl (h) (args_cons rfl (hv) args_nil)) ?_
 intro a0 S0
 refine wq [kF] [] [.inr 0, .inr 1] S0 ?_ ?_
 ·refine ⟨trivial, ?_⟩
  ·exact mC
 intro B1 a1 W1 (S1 : Sta w 61 [] [(0, Mv n Bm Kb), (1, Vv n x K)] _ _ _)
 refine wp_seq ?_
 refine wq [kT, kF] [] [.inl 1, .inr 0, .inr 1] S1 ?_ ?_
 ·refine ⟨⟨trivial, ?_⟩, ?_⟩
  ·exact owe_call0 rfl wA rfl  (fresh_is _) rfl (fun args w => by go_simp) (fun w => gawake_w w)
  ·exact b_not wA (oO 0 10)
 intro B2 a2 W2 (S2 : Sta w 61 [] [(11, bF), (0, Mv n Bm Kb), (1, Vv n x K)] _ _ _)
 refine wp_cond_false (S2.bool 0 11 rfl) (wp_skip (thenN ?_))
 refine wq [.val (Mv n Bm Kb), .val ((TWO (GN n (gwD Bm n) (gwL Bm n)) (IS (.int .i64 0))) w.heap.size), .val ((TWO (GN n (gwD Bm n) (gwL Bm n)) (IS (.int .i64 0))) w.heap.size), .val (SF [((VN (n + 1) (gwD Bm n)) w.heap.size), ((MN n (gwL Bm n)) w.heap.size)]), .val (iV 0), .new (.box 26 (Is (.agg #[.slice none 0 0, .slice none 0 0]))), .put (.inr 5) (qop2e0 w n Bm), .val (iV 0)] [.inl 5] [.inl 7, .inr 1, .inr 2] S2 ?_ ?_
 ·repeat' refine And.intro ?_ ?_
  ·trivial
  ·exact mS 1 0
  ·exact ch1 wA (qO 0 13 rfl) (fresh_two fresh_gn (fresh_is _)) (fun w u h => hof w u h)
  ·exact mO 1 14
  ·exact e20 wA (oO 2 12)
  ·exact e21 wA (oO 2 12)
  ·exact owe_new rfl wA rfl rfl (fun ρ w => alloc_gso ρ _ w)
  ·exact owe_put 5 rfl wA rfl (by kernel_rfl) rfl (oO 3 15) (stores_of strct_gso shp_g0 shp_sf2) rfl
  ·exact mO 4 16
 intro B3 a3 W3 (S3 : Sta w 61 [(5, (qop2e0 w n Bm))] [(6, iV 0), (0, Mv n Bm Kb), (1, Vv n x K)] _ _ _)
 refine wp_seq ?_
 refine wq [.val (Mv n Bm Kb), .val (iV 0), kF] [.inr 0] [.inl 2, .inr 0, .inr 1, .inr 2] S3 ?_ ?_
 ·refine ⟨⟨⟨trivial, ?_⟩, ?_⟩, ?_⟩
  ·exact mS 1 0
  ·exact ch1 wA (qO 0 17 rfl) (fresh_is _) (fun w u h => hva w u h)
  ·exact b_neq_int_f wA (oO 1 18) (opnd_const _) (h := rfl)
 intro B4 a4 W4 (S4 : Sta w 61 [(5, (qop2e0 w n Bm))] [(19, bF), (6, iV 0), (0, Mv n Bm Kb), (1, Vv n x K)] _ _ _)
 refine wp_cond_false (S4.bool 0 19 rfl) (wp_skip (thenN ?_))
 refine wq [.val (SF [((VN (n + 1) (gwD Bm n)) w.heap.size), ((MN n (gwL Bm n)) w.heap.size)]), .val (Vv n x K), .val ((TWO (RN (lnQ Bm x n) 1) (IS (.int .i64 0))) w.heap.size), .val ((TWO (RN (lnQ Bm x n) 1) (IS (.int .i64 0))) w.heap.size), .val ((RN (lnQ Bm x n) 1) w.heap.size), .val (iV 0), .new (.box 43 zR), .put (.inr 6) (.box 43 ((RN (lnQ Bm x n) 1) w.heap.size)), .val (iV 0)] [.inr 0, .inl 6] [.inl 8, .inr 1, .inr 2, .inr 3] S4 ?_ ?_
 ·repeat' refine And.intro ?_ ?_
  ·trivial
  ·exact lod 0 wA (loads_of strct_gso shp_sf2)
  ·exact mS 3 1
  ·exact ch2 wA ((qO 0 29 rfl).imp (sf_imp (vn_vv dD2) (mn_mv dL2))) (qO 1 30 rfl) (fresh_two (fresh_rn _ _) (fresh_is _)) (fun w u0 u1 h0 h1 => Gives.cast (nrm_w w u0 u1 (n + 1) n n K (gwD Bm n) x (gwL Bm n) h0 h1 (by omega) hn hn (by omega) (gw_len Bm n).1 (gw_len Bm n).2 lx gd rfl dD2 dx dL2 hKn hW) (by rw [nm_cast hok]))
  ·exact mO 2 31
  ·exact e20 wA (oO 3 28)
  ·exact e21 wA (oO 3 28)
  ·exact owe_new rfl wA rfl rfl (fun ρ w => alloc_rat ρ _ w)
  ·exact owe_put 6 rfl wA rfl (by kernel_rfl) rfl (oO 4 32) (stores_of strct_rat shp_r0 (shp_pr shp_zn shp_zn)) rfl
  ·exact mO 5 33
 intro B5 a5 W5 (S5 : Sta w 61 [(5, (qop2e0 w n Bm)), (7, (.box 43 ((RN (lnQ Bm x n) 1) w.heap.size)))] [(8, iV 0), (6, iV 0), (0, Mv n Bm Kb), (1, Vv n x K)] _ _ _)
 refine wp_seq ?_
 refine wq [.val (Vv n x K), .val (iV (n : Nat)), .val (Mv n Bm Kb), .val (iV (n : Nat)), kF] [.inr 0, .inr 1] [.inl 4, .inr 0, .inr 1, .inr 2, .inr 3] S5 ?_ ?_
 ·refine ⟨⟨⟨⟨⟨trivial, ?_⟩, ?_⟩, ?_⟩, ?_⟩, ?_⟩
  ·exact mS 3 1
  ·exact owe_len rfl wA rfl (oO 0 34) ar_len Tryz.underlying24 rfl
  ·exact mS 2 0
  ·exact owe_len rfl wA rfl (oO 2 36) ar_len Tryz.underlying22 rfl
  ·exact b_neq_int_f wA (oO 1 35) (oO 3 37)
 intro B6 a6 W6 (S6 : Sta w 61 [(5, (qop2e0 w n Bm)), (7, (.box 43 ((RN (lnQ Bm x n) 1) w.heap.size)))] [(38, bF), (8, iV 0), (6, iV 0), (0, Mv n Bm Kb), (1, Vv n x K)] _ _ _)
 refine wp_cond_false (S6.bool 0 38 rfl) (wp_skip (thenN ?_))
 refine wq [.val (Vv n x K), .val (Sng 24 1 (Vv n x K) w.heap.size), .val (Mv n Bm Kb), .val ((MN 1 ([cb x Bm (wd Bm) n])) w.heap.size), .val (AtE 1 (qop2e1 w n Bm x)), .val (qop2e1 w n Bm x), .val (qop2e1 w n Bm x)] [.inr 0, .inr 1] [.inl 6, .inr 1, .inr 2] S6 ?_ ?_
 ·repeat' refine And.intro ?_ ?_
  ·trivial
  ·exact mS 4 1
  ·exact owe_b1 rfl wA rfl bld_row1 (oO 0 41) cel_vv rfl
  ·exact mS 3 0
  ·exact ch2 wA ((qO 1 42 rfl).imp (fun v w h => by have q := sng_arL v w h; rw [← lx] at q; exact q)) (qO 2 43 rfl) fresh_mn (fun w u0 u1 h0 h1 => r5pr_w w u0 u1 n (wd Bm) K Kb x Bm h0 h1 hok.pos hn hwd (by omega) (by omega) lx hok.len hrx dx hdl)
  ·exact owe_aindex rfl wA rfl idx_rows ((oO 3 44).imp lf_ar) (opnd_const _) rfl rfl
  ·exact owe_aload rfl wA rfl ldr_row1 (by decide) cel_vn (oO 4 45) rfl
  ·exact mO 5 46
 intro B7 a7 W7 (S7 : Sta w 61 [(5, (qop2e0 w n Bm)), (7, (.box 43 ((RN (lnQ Bm x n) 1) w.heap.size)))] [(9, (qop2e1 w n Bm x)), (8, iV 0), (6, iV 0)] _ _ _)
 refine wq [.val (iV 0), kT, kT, .val (iV 0), kT, kT, kT, .val ((RN (lnQ Bm x n) 1) w.heap.size), .val (qop2e1 w n Bm x), .val (qop2e1 w n Bm x), .val ((ZN (lnQ Bm x n)) w.heap.size), .val ((RN (lnQ Bm x n) 1) w.heap.size), kT, kT, kT] [.inr 0] [.inl 14] S7 ?_ ?_
 ·repeat' refine And.intro ?_ ?_
  ·trivial
  ·exact mS 2 6
  ·exact b_eql_errno_t wA (oO 0 47) (opnd_const _) (h := rfl)
  ·exact mO 1 48
  ·exact mW (wI 2 49) (oS 1 8)
  ·exact b_eql_errno_t (wI 2 49) (oO 3 50) (opnd_const _) (h := rfl)
  ·exact pT wA (oO 2 49) (oO 4 51)
  ·exact mO 5 52
  ·exact lod 1 (wI 6 53) (loads_of strct_rat (shp_pr shp_zn shp_zn))
  ·exact mW (wI 6 53) (oS 0 9)
  ·exact mW (wI 6 53) (oS 0 9)
  ·exact ch2 (wI 6 53) ((qO 8 55 rfl).imp (vn_vv cdl)) ((qO 9 56 rfl).imp (vn_vv cdl)) (fresh_zn _) (fun w u0 u1 h0 h1 => Gives.cast (r5dot_w w u0 u1 _ (K + Kb + n) (cb x Bm (wd Bm) n) (cb x Bm (wd Bm) n) h0 h1 (by rw [cb_len]; omega) (by omega)) (by rw [cb_dot hrl]))
  ·exact cc1 (wI 6 53) (qO 10 57 rfl) (fresh_rn _ _) (fun w u h => g_rofG (k := 8388608) (by omega) w u (zn_zv hln _ _ h))
  ·exact ch2 (wI 6 53) ((qO 7 54 rfl).imp (fun v w h => rn_nmx v w h)) ((qO 11 58 rfl).imp (fun v w h => rn_nmx v w h)) (fresh_is _) (fun w u v h h' => gsame_w w u v _ _ _ _ h h')
  ·exact pT wA (oO 6 53) (oO 12 59)
  ·exact mO 13 60
 intro B8 a8 W8 (S8 : Sta w 61 [(5, (qop2e0 w n Bm))] [(4, bT)] _ _ _)
 refine wp_ret ?_
 exact end_one S8 rfl (res_tmp S8 0 4 rfl)


theorem gsolengths_walk (w : World) (b : Option Addr) (n d : Nat) (rs : List Rw) (a1 : Option Addr) (m c1 : Nat) (fs : List El) (z0 : Ms w b n d rs) (s1 : Ls w a1 m c1 fs) (y0 : d ≤ 1048576) (yy0 : ∀ (i : Nat) (r : Rw), rs[i]? = some r → r.c ≤ 1048576 ∧ ∀ (j : Nat) (e : El), r.es[j]? = some e → e.c ≤ 1048576) (u1 : c1 ≤ 1048576) (uu1 : ∀ (i : Nat) (e : El), fs[i]? = some e → e.c ≤ 1048576) (t0 : (rs.map (fun r => (r.es.map (fun e => e.c + 1)).sum)).sum ≤ 1048576) (t1 : (fs.map (fun e => e.c + 1)).sum ≤ 1048576) :
  Calls Tryz.prog 4 #[.slice b n d, .slice a1 m c1] w fun e w' => e = .returned (.bool true) ∧ Below w.heap.size w w' := by
 have l1 := s1.len
 have q1 := len_sum fs
 have q2 := z0.cap
 have q3 := z0.len
 obtain ⟨e1, _, e3⟩ := ms_n z0 (k := 1048576) yy0
 have hb : Hs w (Mv n (zz (rs.map Rw.es)) 1048576) (.slice b n d) := fun w' ev => mx_mv e1 _ w' (ms_hs z0 w' ev)
 have hml : Ml (zz (rs.map Rw.es)) 1048576 := fun i zs hz => by
  obtain ⟨es, he, rfl⟩ := map_get hz
  rw [List.length_map]
  exact e3 i es he
 have hdl : Mdl (zz (rs.map Rw.es)) 1048576 := fun i zs hz => by
  obtain ⟨r, hr⟩ := mv_row hb.now hz
  exact vv_dl hr
 have hv : Hs w (Vv m (fs.map El.z) (1048576 - m)) (.slice a1 m c1) := fun w' ev => vx_vv (fun i x hx => by
  obtain ⟨_, _, _, _, _, hs⟩ := s1.lie i x hx
  have := hs.cap
  have := one_sum hx
  omega) _ w' (ls_hs s1 w' ev)
 have hv2 : Hs w (Vv m (fs.map El.z) 1048576) (.slice a1 m c1) := fun w' ev => vx_vv (fun i x hx => by
  obtain ⟨_, _, _, _, _, hs⟩ := s1.lie i x hx
  have := hs.cap
  have := one_sum hx
  omega) _ w' (ls_hs s1 w' ev)
 have key : Calls Tryz.prog 4 #[.slice b n d, .slice a1 m c1] w (Gives (IS (.bool true)) w) := by
  rcases va_all n 1048576 (zz (rs.map Rw.es)) (by simp [zz, z0.len]) (by omega) (by omega) (by omega) hml hdl with ⟨e0, he, hof, hva⟩ | ⟨hok, hreg, hof, hva⟩
  ·exact gl_e w _ _ n m _ 1048576 _ _ hb hv (by omega) (by omega) e0 he hof hva
  ·have h12 := hok.top
   by_cases hne : m = n
   ·subst hne
    have hrx : ∀ k, k < m → ((zz (rs.map Rw.es)).getD k []).length = wd (zz (rs.map Rw.es)) := fun k hk => by
     rw [List.getD_eq_getElem?_getD, List.getElem?_eq_getElem (by rw [hok.len]; exact hk)]
     exact hreg k _ (List.getElem?_eq_getElem _)
    have hwd : wd (zz (rs.map Rw.es)) ≤ 12 := by
     have h1 := hrx 0 hok.pos
     have h2 := nar_row hok.nar 0
     omega
    have hrl : ∀ k, ((zz (rs.map Rw.es)).getD k []).length ≤ wd (zz (rs.map Rw.es)) := fun k => by
     rcases Nat.lt_or_ge k m with hk | hk
     ·exact Nat.le_of_eq (hrx k hk)
     ·rw [List.getD_eq_getElem?_getD, List.getElem?_eq_none (by rw [hok.len]; exact hk)]
      simp
    exact gl_w w _ _ m _ 1048576 _ _ hb hv (by omega) (by omega) (by omega) hok (by omega) (by omega) hdl (by omega) hrx hrl hof hva
   ·exact gl_s w _ _ n m _ 1048576 _ _ hb hv2 (by omega) (by omega) (by omega) (by omega) hok hne hof hva
 refine key.mono ?_
 rintro e w' ⟨v, rfl, hb, hv⟩
 obtain rfl : v = _ := hv
 exact ⟨rfl, hb⟩
end Go.Proofs.YtddjoigjdolafaaGreat
