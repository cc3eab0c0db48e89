import Derived.Test.YtbgelajoomneiaaGreatVcA
/-
 mat.each and mat.pairs: the list of what a function makes of the parts of lists.
-/
namespace Go.Proofs.YtbgelajoomneiaaGreat
open Go Go.RowKit Nt
set_option linter.unusedSimpArgs false
set_option linter.unusedVariables false
set_option maxRecDepth 20000


theorem set_next {α : Type} {xs : List α} {n k : Nat} {x z : α} (hn : xs.length = n) (hk : xs[k]? = some x) : (xs.take k ++ List.replicate (n - k) z).set k x = xs.take (k + 1) ++ List.replicate (n - (k + 1)) z := by
 have hlt := (List.getElem?_eq_some_iff.1 hk).1
 have e : n - k = (n - (k + 1)) + 1 := by omega
 rw [e, List.replicate_succ, List.take_add_one, hk, List.set_append_right _ _ (by simp; omega), List.length_take, Nat.min_eq_left (by omega), Nat.sub_self]
 simp
theorem fill_end {α : Type} {xs : List α} {n k : Nat} {z : α} (hn : xs.length = n) (hk : n = k) : xs.take k ++ List.replicate (n - k) z = xs := by
 subst hk
 rw [Nat.sub_self, List.take_of_length_le (by omega)]
 simp

set_option maxHeartbeats 400000 in
theorem pairs_w (w : World) (u v f : Value) (n : Nat) (φs φs' : List Pr) (ψs : List (Nat → Pr)) (hl : φs.length = n) (hl2 : φs'.length = n) (hl' : ψs.length = n) (h : Hs w (Ar 2 n φs) u) (h' : Hs w (Ar 2 n φs') v) (hf : Hs w (Fn2 φs φs' ψs) f) (hS : ∀ (i : Nat) φ, φs[i]? = some φ → Shp 2 φ) (hS' : ∀ (i : Nat) φ, φs'[i]? = some φ → Shp 2 φ) (hψ : ∀ (i : Nat) ψ, ψs[i]? = some ψ → Fresh ψ ∧ ∀ lo, Shp 2 (ψ lo)) (hn : n ≤ 1048576) :
  Calls Tryz.prog 83 #[u, v, f] w (Gives (LF 2 n ψs) w) := by
 refine calls_sta (sl := [(0, (Ar 2 n φs)), (1, (Ar 2 n φs')), (2, (Fn2 φs φs' ψs))]) Tryz.func83 rfl Tryz.ntmps83 (by simp) (args_cons rfl (h) (args_cons rfl (h') (args_cons rfl (hf) args_nil))) ?_
 intro a0 S0
 refine wq [.val (Is (.slice none 0 0))] [] [.inl 0, .inr 0, .inr 1, .inr 2] S0 ?_ ?_
 ·apply jj1
  ·exact mC
 intro _ a1 _ (S1 : Sta w 32 [] [(6, Is (.slice none 0 0)), (0, Ar 2 n φs), (1, Ar 2 n φs'), (2, (Fn2 φs φs' ψs))] _ _ _)
 refine wq [.val (Ar 2 n φs), .val (iV (n : Nat)), .new (.row 32 2 n (CE 2 (List.replicate n zI))), .ref 2] [.inl 3] [.inr 0, .inr 1, .inr 2, .inr 3] S1 ?_ ?_
 ·apply jj4
  ·exact mS 1 0
  ·exact owe_len rfl wA rfl (oO 0 10) ar_len Tryz.underlying23 rfl
  ·exact owe_makeE rfl wA rfl Tryz.underlying23 infoInt celv_z0 (by decide) (oO 1 11) ⟨by omega, by unfold maxLen; omega⟩ rfl
  ·exact owe_ref 2 rfl wA (Or.inr rfl) (by kernel_rfl) rfl rfl
 intro _ a2 _ (S2 : Sta w 32 [(7, (.row 32 2 n (CE 2 (List.replicate n zI))))] [(6, Is (.slice none 0 0)), (0, Ar 2 n φs), (1, Ar 2 n φs'), (2, (Fn2 φs φs' ψs))] _ _ _)
 refine wp_seq ?_
 refine wq [.val (Ar 2 n φs), .val (iV (n : Nat)), .val (iV 0)] [.inr 0] [.inl 0, .inl 1, .inl 2, .inr 0, .inr 1, .inr 2, .inr 3] S2 ?_ ?_
 ·apply jj3
  ·exact mS 1 0
  ·exact owe_len rfl wA rfl (oO 0 13) ar_len Tryz.underlying23 rfl
  ·exact mC
 intro B3 a3 _ (S3 : Sta w 32 [(7, (.row 32 2 n (CE 2 (List.replicate n zI))))] [(13, Ar 2 n φs), (14, iV (n : Nat)), (15, iV 0), (6, Is (.slice none 0 0)), (0, Ar 2 n φs), (1, Ar 2 n φs'), (2, (Fn2 φs φs' ψs))] _ _ _)
 refine wp_block ?_
 refine wp_loop_ghost (fun (k : Nat) a W => (k ≤ n) ∧ ∃ Bq, Sta w 32 [(7, (.row 32 2 n (CE 2 ((ψs.map (· w.heap.size)).take k ++ List.replicate (n - k) zI))))] [(13, Ar 2 n φs), (14, iV (n : Nat)), (15, iV k), (1, Ar 2 n φs'), (2, (Fn2 φs φs' ψs))] Bq a W) (fun (k : Nat) => n - k) ?_ 0 ⟨Nat.zero_le _, B3, S3.sub [0] [0, 1, 2, 5, 6]⟩
 rintro k a4 _ ⟨hcond, _, S4⟩
 by_cases hlt : k < n
 ·obtain ⟨φ, hφ⟩ : ∃ φ, φs[k]? = some φ := ⟨φs[k]'(by omega), List.getElem?_eq_getElem _⟩
  obtain ⟨ψ, hψk⟩ : ∃ ψ, ψs[k]? = some ψ := ⟨ψs[k]'(by omega), List.getElem?_eq_getElem _⟩
  have hset := set_next (z := Is (.agg #[.bool false, .slice none 0 0])) (xs := (ψs.map (· w.heap.size))) (n := n) (by simp [hl']) (map_get' (· w.heap.size) hψk)
  obtain ⟨φ', hφ'⟩ : ∃ φ, φs'[k]? = some φ := ⟨φs'[k]'(by omega), List.getElem?_eq_getElem _⟩
  refine wq [kT] [.inr 0] [.inl 0, .inr 0, .inr 1, .inr 2, .inr 3, .inr 4] S4 ?_ ?_
  ·apply jj1
   ·exact b_lss_int_t wA (oS 2 15) (oS 1 14)
  intro B5 a5 W5 (S5 : Sta w 32 [(7, (.row 32 2 n (CE 2 ((ψs.map (· w.heap.size)).take k ++ List.replicate (n - k) zI))))] [(16, bT), (13, Ar 2 n φs), (14, iV (n : Nat)), (15, iV k), (1, Ar 2 n φs'), (2, (Fn2 φs φs' ψs))] _ _ _)
  refine wp_seq (wp_cond_true (S5.bool 0 16 rfl) (wp_skip (thenN (wp_seq (wp_block ?_)))))
  refine wq [.val (iV k), .val (AtE 2 φ), .val φ, .new (.box 32 zI), .val (iV k), .put (.inr 3) (.box 32 φ)] [.inr 0, .inl 3] [.inl 4, .inr 0, .inr 1, .inr 2, .inr 3, .inr 4, .inr 5] S5 ?_ ?_
  ·apply jj6
   ·exact mS 3 15
   ·exact owe_aindex rfl wA rfl idx_ints (oS 1 13) (oS 3 15) hφ rfl
   ·exact owe_aload rfl wA rfl ldr_int (by decide) (cel_shp (by decide) (hS k φ hφ)) (oO 1 18) rfl
   ·exact owe_new rfl wA rfl rfl (fun ρ w => alloc_int ρ _ w)
   ·exact mO 0 17
   ·exact owe_put 3 rfl wA rfl (by kernel_rfl) rfl (oO 2 19) (stores_of strct_int shp_z0 (hS k φ hφ)) rfl
  intro B6 a6 W6 (S6 : Sta w 32 [(7, (.row 32 2 n (CE 2 ((ψs.map (· w.heap.size)).take k ++ List.replicate (n - k) zI)))), (9, (.box 32 φ))] [(8, iV k), (16, bT), (13, Ar 2 n φs), (14, iV (n : Nat)), (15, iV k), (1, Ar 2 n φs'), (2, (Fn2 φs φs' ψs))] _ _ _)
  refine wr [.val (Is (a6.eval (.tmp 7))), .val (iV k), .val (Fn2 φs φs' ψs), .val φ, .val (Ar 2 n φs'), .val (iV k), .val (AtE 2 φ'), .val φ', .val (ψ w.heap.size), .val (REt a6 7 (2 * k)), .put (.inl 7) (.row 32 2 n (CE 2 ((ψs.map (· w.heap.size)).take (k + 1) ++ List.replicate (n - (k + 1)) zI)))] [.inr 0, .inr 1] [.inr 1, .inr 2, .inr 3, .inr 4, .inr 5, .inr 6] S6 ?_ ?_
  ·repeat' refine And.intro ?_ ?_
   ·trivial
   ·exact owe_same rfl wA (Or.inl rfl) (by kernel_rfl) rfl
   ·exact mS 0 8
   ·exact mS 6 2
   ·exact lod 1 wA (loads_of strct_int (hS k φ hφ))
   ·exact mS 5 1
   ·exact mS 0 8
   ·exact owe_aindex rfl wA rfl idx_ints (oO 4 24) (oO 5 25) hφ' rfl
   ·exact owe_aload rfl wA rfl ldr_int (by decide) (cel_shp (by decide) (hS' k φ' hφ')) (oO 6 26) rfl
   ·exact owe_callv2 k rfl wA rfl (oO 2 22) hφ hφ' hψk (oO 3 23) (oO 7 27) (hψ k ψ hψk).1 rfl
   ·exact owe_rindexE rfl wA rfl idx_ints (oO 0 20) (k := 0) rfl (by kernel_rfl) (oO 1 21) hlt rfl
   ·exact owe_rstoreE rfl wA rfl sto_int (by decide) (oO 9 29) (k := 0) rfl (by kernel_rfl) (oO 8 28) (cel_shp (by decide) ((hψ k ψ hψk).2 _)) hlt (by rw [hset]; rfl)
  intro B7 a7 W7 (S7 : Sta w 32 [(7, (.row 32 2 n (CE 2 ((ψs.map (· w.heap.size)).take (k + 1) ++ List.replicate (n - (k + 1)) zI)))), (9, (.box 32 φ))] [(16, bT), (13, Ar 2 n φs), (14, iV (n : Nat)), (15, iV k), (1, Ar 2 n φs'), (2, (Fn2 φs φs' ψs))] _ _ _)
  refine inBlkN (thenN ?_)
  refine wr [.val (iV (k + 1 : Nat)), .val (iV (k + 1 : Nat))] [.inr 0, .inr 1] [.inl 1, .inr 0, .inr 1, .inr 2, .inr 4, .inr 5] S7 ?_ ?_
  ·apply jj2
   ·exact b_add_int wA (oS 3 15) (opnd_const _)
   ·exact mO 0 30
  intro B8 a8 _ (S8 : Sta w 32 [(7, (.row 32 2 n (CE 2 ((ψs.map (· w.heap.size)).take (k + 1) ++ List.replicate (n - (k + 1)) zI)))), (9, (.box 32 φ))] [(15, iV (k + 1 : Nat)), (16, bT), (13, Ar 2 n φs), (14, iV (n : Nat)), (1, Ar 2 n φs'), (2, (Fn2 φs φs' ψs))] _ _ _)
  refine thenN ?_
  exact ⟨k + 1, ⟨by omega, B8, S8.sub [0] [2, 3, 0, 4, 5]⟩, by omega⟩
 ·have hend := fill_end (z := Is (.agg #[.bool false, .slice none 0 0])) (xs := (ψs.map (· w.heap.size))) (n := n) (k := k) (by simp [hl']) (by omega)
  refine wq [kF] [.inr 0] [.inl 0, .inr 0, .inr 1, .inr 2, .inr 3, .inr 4] S4 ?_ ?_
  ·apply jj1
   ·exact b_lss_int_f wA (oS 2 15) (oS 1 14)
  intro B5 a5 W5 (S5 : Sta w 32 [(7, (.row 32 2 n (CE 2 ((ψs.map (· w.heap.size)).take k ++ List.replicate (n - k) zI))))] [(16, bF), (13, Ar 2 n φs), (14, iV (n : Nat)), (15, iV k), (1, Ar 2 n φs'), (2, (Fn2 φs φs' ψs))] _ _ _)
  refine wp_seq (wp_cond_false (S5.bool 0 16 rfl) (wp_exit (thenX (thenX (inBlkE (thenN ?_))))))
  obtain ⟨B6, S6⟩ : ∃ Bq, Sta w 32 [] [(7, ((LF 2 n ψs) w.heap.size)), (16, bF), (13, Ar 2 n φs), (14, iV (n : Nat)), (15, iV k), (1, Ar 2 n φs'), (2, (Fn2 φs φs' ψs))] Bq a5 W5 := ⟨_, S5.freeze 0 rfl (by simp) (fun v w' xs ho hc => row_lf (by decide) v w' xs ho (by rw [hend] at hc; exact hc))⟩
  obtain ⟨a6, W6, e1, e2⟩ : ∃ a W, a5 = a ∧ W5 = W := ⟨_, _, rfl, rfl⟩
  rw [e1, e2] at S6 ⊢
  clear e1 e2
  refine wq [.val ((LF 2 n ψs) w.heap.size), .val ((LF 2 n ψs) w.heap.size)] [] [.inl 1, .inr 0, .inr 1, .inr 2, .inr 3, .inr 4, .inr 5, .inr 6] S6 ?_ ?_
  ·apply jj2
   ·exact mS 0 7
   ·exact mO 0 31
  intro B7 a7 W7 (S7 : Sta w 32 [] [(6, ((LF 2 n ψs) w.heap.size)), (7, ((LF 2 n ψs) w.heap.size)), (16, bF), (13, Ar 2 n φs), (14, iV (n : Nat)), (15, iV k), (1, Ar 2 n φs'), (2, (Fn2 φs φs' ψs))] _ _ _)
  refine wp_ret ?_
  exact end_one S7 rfl (res_tmp S7 0 6 rfl)

end Go.Proofs.YtbgelajoomneiaaGreat

/-
 Vectors: mat and the document.
-/
namespace Go.Proofs.YtbgelajoomneiaaGreat
open Go Go.RowKit Nt
set_option linter.unusedSimpArgs false
set_option linter.unusedVariables false
set_option maxRecDepth 20000


/-! Sums of lists. -/
def sumZ : List Int → Int
 | [] => 0
 | x :: r => x + sumZ r
theorem sumZ_append (a b : List Int) : sumZ (a ++ b) = sumZ a + sumZ b := by
 induction a with
 | nil => simp [sumZ]
 | cons x r ih => simp only [List.cons_append, sumZ, ih]; omega
theorem sumZ_take {l : List Int} {k : Nat} {x : Int} (h : l[k]? = some x) : sumZ (l.take (k + 1)) = sumZ (l.take k) + x := by
 rw [List.take_add_one, h, sumZ_append]
 simp [sumZ]
theorem sumZ_len {l : List Int} {m : Nat} (h : Dl l m) (k : Nat) : (digs (sumZ (l.take k)).natAbs).length ≤ m + k := by
 induction k with
 | zero => rw [show sumZ (l.take 0) = 0 from rfl, show (digs (0 : Int).natAbs) = [] from digs_zero]; exact Nat.zero_le _
 | succ k ih =>
  cases hx : l[k]? with
  | none =>
   rw [List.take_add_one, hx]
   simp only [Option.toList, List.append_nil]
   omega
  | some x =>
   rw [sumZ_take hx]
   exact dl_add ih (Nat.le_trans (h k x hx) (Nat.le_add_right _ _))
def zEl (z : Int) : El := ⟨ng z, none, (digs z.natAbs).length, 0, digs z.natAbs⟩
theorem zEl_z (z : Int) : (zEl z).z = z := by simp only [zEl, El.z]; rw [val_digs, sg_sign]
theorem tot_zs (zs : List Int) (k : Nat) : tot (zs.map zEl) k = sumZ (zs.take k) := by
 induction k with
 | zero => rfl
 | succ k ih =>
  show tot _ k + _ = _
  rw [ih, List.getElem?_map]
  cases hx : zs[k]? with
  | none =>
   rw [List.take_add_one, hx]
   simp
  | some x =>
   rw [sumZ_take hx]
   simp [zEl_z]
theorem vn_lc {n lo : Nat} {zs : List Int} : ∀ v w, VN n zs lo v w → Lc (zs.map zEl) n v w := by
 rintro v w ⟨⟨p, c, rfl, hl, ⟨h1, h2, h3⟩, ha⟩, _⟩
 have hl' : zs.length = n := by simpa using hl
 have each : ∀ i, ∃ f : El, ∀ z, zs[i]? = some z → (∃ b o, p = some ⟨b, o, none⟩ ∧ w.cell? ⟨b, o + 2 * i, none⟩ = some (.bool f.s) ∧ w.cell? ⟨b, o + 2 * i + 1, none⟩ = some (.slice f.p f.n f.c) ∧ Sl w f.p f.n f.c f.xs) ∧ f.s = (zEl z).s ∧ f.n = (zEl z).n ∧ f.xs = (zEl z).xs := fun i => by
  cases hz : zs[i]? with
  | none => exact ⟨default, fun z h => by cases h⟩
  | some z =>
   obtain ⟨b, o, u, e1, e2, e3, r, c', e4, e5, e6⟩ := ha i (ZN z lo) (by rw [List.getElem?_map, List.getElem?_map, hz]; rfl)
   refine ⟨⟨ng z, r, (digs z.natAbs).length, c', digs z.natAbs⟩, fun z' h' => ?_⟩
   cases h'
   subst e4
   exact ⟨⟨b, o, e1, e2 0 _ rfl, e2 1 _ rfl, e5⟩, rfl, rfl, rfl⟩
 obtain ⟨F, hch⟩ : ∃ F : Nat → El, ∀ (i : Nat) (z : Int), zs[i]? = some z → (∃ b o, p = some ⟨b, o, none⟩ ∧ w.cell? ⟨b, o + 2 * i, none⟩ = some (.bool (F i).s) ∧ w.cell? ⟨b, o + 2 * i + 1, none⟩ = some (.slice (F i).p (F i).n (F i).c) ∧ Sl w (F i).p (F i).n (F i).c (F i).xs) ∧ (F i).s = (zEl z).s ∧ (F i).n = (zEl z).n ∧ (F i).xs = (zEl z).xs := ⟨fun i => Classical.choose (each i), fun i => Classical.choose_spec (each i)⟩
 refine ⟨p, c, (List.range n).map F, rfl, ⟨by simp, h1, h2, h3, fun i e he => ?_⟩, by simp [hl'], fun i f e hf he => ?_⟩
 ·obtain ⟨j, hj, rfl⟩ := map_get he
  have hi : i < n := by simpa using (List.getElem?_eq_some_iff.1 hj).1
  rw [List.getElem?_range hi] at hj
  cases hj
  exact (hch i _ (List.getElem?_eq_getElem (by omega : i < zs.length))).1
 ·obtain ⟨j, hj, rfl⟩ := map_get hf
  have hi : i < n := by simpa using (List.getElem?_eq_some_iff.1 hj).1
  rw [List.getElem?_range hi] at hj
  cases hj
  obtain ⟨z, hz, rfl⟩ := map_get he
  exact (hch i z hz).2
/-! Functions that go over lists. -/
theorem zip_get {α β γ : Type} {f : α → β → γ} {l : List α} {m : List β} {i : Nat} {y : γ} (h : (List.zipWith f l m)[i]? = some y) : ∃ a b, l[i]? = some a ∧ m[i]? = some b ∧ y = f a b := by
 rw [List.getElem?_zipWith] at h
 cases ha : l[i]? with
 | none => simp [ha] at h
 | some a =>
  cases hb : m[i]? with
  | none => simp [ha, hb] at h
  | some b => simp [ha, hb] at h; exact ⟨a, b, rfl, rfl, h.symm⟩
theorem fn2_zip {f k k' : Nat} {G : Int → Int → Nat → Pr} {As Bs : List Int} (hcf : ∀ args w, (callFunc f args).run Tryz.prog w = .ok (.enter f args) w) (C : ∀ a b w u v, Zv a k u w → Zv b k' v w → Calls Tryz.prog f #[u, v] w (Gives (G a b) w)) : ∀ v w, Is (.func (.func f) #[] #[]) v w → Fn2 (As.map (fun z => Zv z k)) (Bs.map (fun z => Zv z k')) (List.zipWith G As Bs) v w :=
 is_fn2 hcf (fun i φ φ' ψ h1 h2 h3 w u v hu hv => by
  obtain ⟨a, ha, rfl⟩ := map_get h1
  obtain ⟨b, hb, rfl⟩ := map_get h2
  obtain ⟨a', b', ha', hb', rfl⟩ := zip_get h3
  rw [ha] at ha'
  rw [hb] at hb'
  cases ha'
  cases hb'
  exact C a b w u v hu.now hv.now)
theorem zip_map {α β γ δ : Type} (f : α → β → γ) (g : γ → δ) : ∀ (l : List α) (m : List β), (List.zipWith f l m).map g = List.zipWith (fun a b => g (f a b)) l m
 | [], _ => by simp
 | _ :: _, [] => by simp
 | a :: l, b :: m => by simp [zip_map f g l m]
theorem h_pairs {n k k' : Nat} {As Bs : List Int} {F : Int → Int → Int} (hn : n ≤ 1048576) : ∀ w u v f, Hs w (Vv n As k) u → Hs w (Vv n Bs k') v → Hs w (Fn2 (As.map (fun z => Zv z k)) (Bs.map (fun z => Zv z k')) (List.zipWith (fun a b => ZN (F a b)) As Bs)) f → Calls Tryz.prog 83 #[u, v, f] w (Gives (VN n (List.zipWith F As Bs)) w) := fun w u v f hu hv hf => by
 obtain ⟨p, c, _, hl, _⟩ := hu.now
 obtain ⟨p', c', _, hl2, _⟩ := hv.now
 have hA : As.length = n := by simpa using hl
 have hB : Bs.length = n := by simpa using hl2
 rw [show (VN n (List.zipWith F As Bs)) = LF 2 n (List.zipWith (fun a b => ZN (F a b)) As Bs) from by simp only [VN, zip_map]]
 exact pairs_w w u v f n _ _ _ (by simp [hA]) (by simp [hB]) (by simp [hA, hB]) hu hv hf (fun i φ h => by obtain ⟨a, _, rfl⟩ := map_get h; exact shp_zv) (fun i φ h => by obtain ⟨a, _, rfl⟩ := map_get h; exact shp_zv) (fun i ψ h => by obtain ⟨a, b, _, _, rfl⟩ := zip_get h; exact ⟨fresh_zn _, fun lo => shp_zn⟩) hn
theorem dl_zip {As Bs : List Int} {k k' : Nat} (h : Dl As k) (h' : Dl Bs k') : Dl (List.zipWith (· * ·) As Bs) (k + k') := fun i z hz => by
 obtain ⟨a, b, ha, hb, rfl⟩ := zip_get hz
 exact dl_mul (h i a ha) (h' i b hb)
theorem zv_dl {A : Int} {k : Nat} {u : Value} {w : World} (h : Zv A k u w) : (digs A.natAbs).length ≤ k := by
 obtain ⟨s, p, n, c, xs, rfl, hs, rfl, hn⟩ := h
 exact Nat.le_trans (sg_dl hs) hn
theorem vv_dl {n k : Nat} {zs : List Int} {u : Value} {w : World} (h : Vv n zs k u w) : Dl zs k := fun i z hz => by
 obtain ⟨p, c, _, _, _, ha⟩ := h
 obtain ⟨b, o, x, _, _, _, hx⟩ := ha i _ (map_get' (fun z => Zv z k) hz)
 exact zv_dl hx
theorem vv_len {n k : Nat} {zs : List Int} {u : Value} {w : World} (h : Vv n zs k u w) : zs.length = n := by
 obtain ⟨p, c, _, hl, _⟩ := h
 simpa using hl
set_option maxHeartbeats 400000 in
theorem zsum_w (w : World) (u : Value) (es : List El) (n : Nat) (h : Lc es n u w) (hn : n ≤ 1048576) (hB : ∀ (i : Nat) (e : El), es[i]? = some e → e.n ≤ 1073741824) :
  Calls Tryz.prog 45 #[u] w (Gives (ZN (tot es n)) w) := by
 refine calls_sta (sl := [(0, (Lc es n))]) Tryz.func45 rfl Tryz.ntmps45 (by simp) (args_cons rfl (lc_has h) args_nil) ?_
 intro a0 S0
 refine wq [.new (.box 32 zI)] [.inl 0] [.inr 0] S0 ?_ ?_
 ·apply jj1
  ·exact owe_new rfl wA rfl rfl (fun ρ w => alloc_int ρ _ w)
 intro _ a1 _ (S1 : Sta w 5 [(2, (.box 32 zI))] [(0, Lc es n)] _ _ _)
 refine wq [.val (Lc es n), .val ((ZN (tot es n)) w.heap.size), .put (.inl 2) (.box 32 ((ZN (tot es n)) w.heap.size))] [.inr 0] [] S1 ?_ ?_
 ·apply jj3
  ·exact mS 0 0
  ·exact cc1 wA (qO 0 3 rfl) (fresh_zn _) (g_ztotal hn hB)
  ·exact owe_set rfl wA rfl (k := 0) rfl (by kernel_rfl) (oO 1 4) (stores_of strct_int shp_z0 shp_zn) rfl
 intro _ a2 _ (S2 : Sta w 5 [(2, (.box 32 ((ZN (tot es n)) w.heap.size)))] [] _ _ _)
 refine wp_ret ?_
 exact end_one S2 rfl (res_cell S2 0 2 rfl strct_int shp_zn)

theorem h_zsum {n lo : Nat} {zs : List Int} (hn : n ≤ 1048576) (hl : zs.length = n) (hd : Dl zs 1073741824) : ∀ w u, Hs w (VN n zs lo) u → Calls Tryz.prog 45 #[u] w (Gives (ZN (sumZ zs)) w) := fun w u h => by
 have := zsum_w w u (zs.map zEl) n (vn_lc _ _ h.now) hn (fun i e he => by obtain ⟨z, hz, rfl⟩ := map_get he; exact hd i z hz)
 rw [tot_zs, List.take_of_length_le (by omega)] at this
 exact this

set_option maxHeartbeats 400000 in
theorem dot_w (w : World) (u v : Value) (n k k' : Nat) (As Bs : List Int) (h : Hs w (Vv n As k) u) (h' : Hs w (Vv n Bs k') v) (hn : n ≤ 1048576) (hs : k + k' ≤ 1073741824) :
  Calls Tryz.prog 76 #[u, v] w (Gives (ZN (sumZ (List.zipWith (· * ·) As Bs))) w) := by
 have hA := vv_len h.now
 have hB := vv_len h'.now
 have hd := dl_zip (vv_dl h.now) (vv_dl h'.now)
 have hd2 : Dl (List.zipWith (· * ·) As Bs) 1073741824 := fun i z hz => Nat.le_trans (hd i z hz) hs
 have hlz : (List.zipWith (· * ·) As Bs).length = n := by simp [hA, hB]
 refine calls_sta (sl := [(0, (Vv n As k)), (1, (Vv n Bs k'))]) Tryz.func76 rfl Tryz.ntmps76 (by simp) (args_cons rfl (h) (args_cons rfl (h') args_nil)) ?_
 intro a0 S0
 refine wq [.new (.box 32 zI)] [.inl 0] [.inr 0, .inr 1] S0 ?_ ?_
 ·apply jj1
  ·exact owe_new rfl wA rfl rfl (fun ρ w => alloc_int ρ _ w)
 intro _ a1 _ (S1 : Sta w 9 [(4, (.box 32 zI))] [(0, Vv n As k), (1, Vv n Bs k')] _ _ _)
 refine wq [.val (Vv n As k), .val (Vv n Bs k'), .val ((VN n (List.zipWith ((· * ·)) As Bs)) w.heap.size), .val ((ZN (sumZ (List.zipWith (· * ·) As Bs))) w.heap.size), .put (.inl 4) (.box 32 ((ZN (sumZ (List.zipWith (· * ·) As Bs))) w.heap.size))] [.inr 0] [] S1 ?_ ?_
 ·apply jj5
  ·exact mS 0 0
  ·exact mS 1 1
  ·exact owe_callh3 rfl wA rfl (oO 0 5) (oO 1 6) ((opnd_func _).imp (fn2_zip (G := fun a b => ZN (((· * ·)) a b)) (fun args w => by go_simp) (fun a b => g_zmul (by omega)))) fresh_vn rfl (fun args w => by go_simp) (h_pairs (F := ((· * ·))) hn)
  ·exact ch1 wA (qO 2 7 rfl) (fresh_zn _) (h_zsum hn hlz hd2)
  ·exact owe_set rfl wA rfl (k := 0) rfl (by kernel_rfl) (oO 3 8) (stores_of strct_int shp_z0 shp_zn) rfl
 intro _ a2 _ (S2 : Sta w 9 [(4, (.box 32 ((ZN (sumZ (List.zipWith (· * ·) As Bs))) w.heap.size)))] [] _ _ _)
 refine wp_ret ?_
 exact end_one S2 rfl (res_cell S2 0 4 rfl strct_int shp_zn)


set_option maxHeartbeats 400000 in
theorem dot_y (w : World) (u v : Value) (n k k' : Nat) (As Bs : List Int) (h : Hs w (Vv n As k) u) (h' : Hs w (Vv n Bs k') v) (hn : n ≤ 1048576) (hs : k + k' ≤ 1073741824) :
  Calls Tryz.prog 55 #[u, v] w (Gives (TWO (ZN (sumZ (List.zipWith (· * ·) As Bs))) (IS (.int .i64 0))) w) := by
 refine calls_sta (sl := [(0, (Vv n As k)), (1, (Vv n Bs k'))]) Tryz.func55 rfl Tryz.ntmps55 (by simp) (args_cons rfl (h) (args_cons rfl (h') args_nil)) ?_
 intro a0 S0
 refine wq [.new (.box 32 zI), .val (iV 0)] [.inl 0] [.inl 1, .inr 0, .inr 1] S0 ?_ ?_
 ·apply jj2
  ·exact owe_new rfl wA rfl rfl (fun ρ w => alloc_int ρ _ w)
  ·exact mC
 intro _ a1 _ (S1 : Sta w 15 [(4, (.box 32 zI))] [(5, iV 0), (0, Vv n As k), (1, Vv n Bs k')] _ _ _)
 refine wp_seq ?_
 refine wq [.val (Vv n As k), .val (iV (n : Nat)), .val (Vv n Bs k'), .val (iV (n : Nat)), kF] [.inr 0] [.inl 4, .inr 0, .inr 1, .inr 2] S1 ?_ ?_
 ·apply jj5
  ·exact mS 1 0
  ·exact owe_len rfl wA rfl (oO 0 6) ar_len Tryz.underlying23 rfl
  ·exact mS 2 1
  ·exact owe_len rfl wA rfl (oO 2 8) ar_len Tryz.underlying23 rfl
  ·exact b_neq_int_f wA (oO 1 7) (oO 3 9)
 intro _ a2 _ (S2 : Sta w 15 [(4, (.box 32 zI))] [(10, bF), (5, iV 0), (0, Vv n As k), (1, Vv n Bs k')] _ _ _)
 refine wp_cond_false (S2.bool 0 10 rfl) (wp_skip (thenN ?_))
 refine wq [.val (Vv n As k), .val (Vv n Bs k'), .val ((ZN (sumZ (List.zipWith (· * ·) As Bs))) w.heap.size), .put (.inl 4) (.box 32 ((ZN (sumZ (List.zipWith (· * ·) As Bs))) w.heap.size)), .val (iV 0)] [.inr 0] [.inl 4, .inr 0, .inr 2, .inr 3] S2 ?_ ?_
 ·apply jj5
  ·exact mS 2 0
  ·exact mS 3 1
  ·exact ch2 wA (qO 0 12 rfl) (qO 1 13 rfl) (fresh_zn _) (fun w u v h h' => dot_w w u v n k k' As Bs h h' hn hs)
  ·exact owe_set rfl wA rfl (k := 0) rfl (by kernel_rfl) (oO 2 14) (stores_of strct_int shp_z0 shp_zn) rfl
  ·exact mC
 intro _ a3 _ (S3 : Sta w 15 [(4, (.box 32 ((ZN (sumZ (List.zipWith (· * ·) As Bs))) w.heap.size)))] [(5, iV 0), (10, bF), (0, Vv n As k), (1, Vv n Bs k')] _ _ _)
 refine wp_ret ?_
 exact end_two S3 rfl (res_cell S3 0 4 rfl strct_int shp_zn) (res_tmp S3 0 5 rfl)

set_option maxHeartbeats 400000 in
theorem norm_w (w : World) (u : Value) (n k : Nat) (As : List Int) (h : Hs w (Vv n As k) u) (hn : n ≤ 1048576) (hs : k + k ≤ 1073741824) :
  Calls Tryz.prog 57 #[u] w (Gives (ZN (sumZ (List.zipWith (· * ·) As As))) w) := by
 refine calls_sta (sl := [(0, (Vv n As k))]) Tryz.func57 rfl Tryz.ntmps57 (by simp) (args_cons rfl (h) args_nil) ?_
 intro a0 S0
 refine wq [.new (.box 32 zI)] [.inl 0] [.inr 0] S0 ?_ ?_
 ·apply jj1
  ·exact owe_new rfl wA rfl rfl (fun ρ w => alloc_int ρ _ w)
 intro _ a1 _ (S1 : Sta w 6 [(2, (.box 32 zI))] [(0, Vv n As k)] _ _ _)
 refine wq [.val (Vv n As k), .val (Vv n As k), .val ((ZN (sumZ (List.zipWith (· * ·) As As))) w.heap.size), .put (.inl 2) (.box 32 ((ZN (sumZ (List.zipWith (· * ·) As As))) w.heap.size))] [.inr 0] [] S1 ?_ ?_
 ·apply jj4
  ·exact mS 0 0
  ·exact mS 0 0
  ·exact ch2 wA (qO 0 3 rfl) (qO 1 4 rfl) (fresh_zn _) (fun w u v h h' => dot_w w u v n k k As As h h' hn hs)
  ·exact owe_set rfl wA rfl (k := 0) rfl (by kernel_rfl) (oO 2 5) (stores_of strct_int shp_z0 shp_zn) rfl
 intro _ a2 _ (S2 : Sta w 6 [(2, (.box 32 ((ZN (sumZ (List.zipWith (· * ·) As As))) w.heap.size)))] [] _ _ _)
 refine wp_ret ?_
 exact end_one S2 rfl (res_cell S2 0 2 rfl strct_int shp_zn)

end Go.Proofs.YtbgelajoomneiaaGreat

/-
 The laws' own: copies of lists, and whether two lists are the same.
-/
namespace Go.Proofs.YtbgelajoomneiaaGreat
open Go Go.RowKit Nt
set_option linter.unusedSimpArgs false
set_option linter.unusedVariables false
set_option maxRecDepth 20000

end Go.Proofs.YtbgelajoomneiaaGreat
