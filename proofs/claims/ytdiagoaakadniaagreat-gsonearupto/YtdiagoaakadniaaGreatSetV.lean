import Derived.Test.YtdiagoaakadniaaGreatVcA
namespace Go.Proofs.YtdiagoaakadniaaGreat
open Go Go.RowKit Nt
set_option linter.unusedSimpArgs false
set_option linter.unusedVariables false
set_option maxRecDepth 20000
set_option maxHeartbeats 16000000
theorem yl0 {α : Type} {xs : List α} {n k : Nat} {x z : α} (hn : xs.length = n) (hk : xs[k]? = some x) : (xs.take k ++ List.replicate (n - k) z).set k x = xs.take (k + 1) ++ List.replicate (n - (k + 1)) z := by
 have hlt := (List.getElem?_eq_some_iff.1 hk).1
 have e : n - k = (n - (k + 1)) + 1 := by omega
 rw [e, List.replicate_succ, List.take_add_one, hk, List.set_append_right _ _ (by simp; omega), List.length_take, Nat.min_eq_left (by omega), Nat.sub_self]
 simp
theorem yky {α : Type} {xs : List α} {n k : Nat} {z : α} (hn : xs.length = n) (hk : n = k) : xs.take k ++ List.replicate (n - k) z = xs := by
 subst hk
 rw [Nat.sub_self, List.take_of_length_le (by omega)]
 simp
theorem pairs_w (w : World) (u v f : Value) (n : Nat) (φs φs' : List Pr) (ψs : List (Nat → Pr)) (hl : φs.length = n) (hl2 : φs'.length = n) (hl' : ψs.length = n) (h : Hs w (Ar 2 n φs) u) (h' : Hs w (Ar 2 n φs') v) (hf : Hs w (Fn2 φs φs' ψs) f) (hS : ∀ (i : Nat) φ, φs[i]? = some φ → Shp 2 φ) (hS' : ∀ (i : Nat) φ, φs'[i]? = some φ → Shp 2 φ) (hψ : ∀ (i : Nat) ψ, ψs[i]? = some ψ → Fresh ψ ∧ ∀ lo, Shp 2 (ψ lo)) (hn : n ≤ 1048576) :
  Calls Tryz.prog 93 #[u, v, f] w (Gives (LF 2 n ψs) w) := by
 refine yam (sl := [(0, (Ar 2 n φs)), (1, (Ar 2 n φs')), (2, (Fn2 φs φs' ψs))]) Tryz.func93 rfl Tryz.ntmps93 (by simp) (yab rfl (h) (yab rfl (h') (yab rfl (hf) yaq))) ?_
 intro a0 S0
 refine wq [.val (Is (.slice none 0 0))] [] [.inl 0, .inr 0, .inr 1, .inr 2] S0 ?_ ?_
 ·apply jj1
  ·exact mC
 intro _ a1 _ (S1 : Sta w 32 [] [(6, Is (.slice none 0 0)), (0, Ar 2 n φs), (1, Ar 2 n φs'), (2, (Fn2 φs φs' ψs))] _ _ _)
 refine wq [.val (Ar 2 n φs), .val (iV (n : Nat)), .new (.row 26 2 n (CE 2 (List.replicate n zI))), .ref 2] [.inl 3] [.inr 0, .inr 1, .inr 2, .inr 3] S1 ?_ ?_
 ·apply jj4
  ·exact mS 1 0
  ·exact yal rfl wA rfl (oO 0 10) yaw Tryz.underlying39 rfl
  ·exact yfn rfl wA rfl Tryz.underlying39 infoInt yn9 (by decide) (oO 1 11) ⟨by omega, by unfold maxLen; omega⟩ rfl
  ·exact yea 2 rfl wA (Or.inr rfl) (by kernel_rfl) rfl rfl
 intro _ a2 _ (S2 : Sta w 32 [(7, (.row 26 2 n (CE 2 (List.replicate n zI))))] [(6, Is (.slice none 0 0)), (0, Ar 2 n φs), (1, Ar 2 n φs'), (2, (Fn2 φs φs' ψs))] _ _ _)
 refine wp_seq ?_
 refine wq [.val (Ar 2 n φs), .val (iV (n : Nat)), .val (iV 0)] [.inr 0] [.inl 0, .inl 1, .inl 2, .inr 0, .inr 1, .inr 2, .inr 3] S2 ?_ ?_
 ·apply jj3
  ·exact mS 1 0
  ·exact yal rfl wA rfl (oO 0 13) yaw Tryz.underlying39 rfl
  ·exact mC
 intro B3 a3 _ (S3 : Sta w 32 [(7, (.row 26 2 n (CE 2 (List.replicate n zI))))] [(13, Ar 2 n φs), (14, iV (n : Nat)), (15, iV 0), (6, Is (.slice none 0 0)), (0, Ar 2 n φs), (1, Ar 2 n φs'), (2, (Fn2 φs φs' ψs))] _ _ _)
 refine wp_block ?_
 refine yan (fun (k : Nat) a W => (k ≤ n) ∧ ∃ Bq, Sta w 32 [(7, (.row 26 2 n (CE 2 ((ψs.map (· w.heap.size)).take k ++ List.replicate (n - k) zI))))] [(13, Ar 2 n φs), (14, iV (n : Nat)), (15, iV k), (1, Ar 2 n φs'), (2, (Fn2 φs φs' ψs))] Bq a W) (fun (k : Nat) => n - k) ?_ 0 ⟨Nat.zero_le _, B3, S3.sub [0] [0, 1, 2, 5, 6]⟩
 rintro k a4 _ ⟨hcond, _, S4⟩
 by_cases hlt : k < n
 ·obtain ⟨φ, hφ⟩ : ∃ φ, φs[k]? = some φ := ⟨φs[k]'(by omega), List.getElem?_eq_getElem _⟩
  obtain ⟨ψ, hψk⟩ : ∃ ψ, ψs[k]? = some ψ := ⟨ψs[k]'(by omega), List.getElem?_eq_getElem _⟩
  have hset := yl0 (z := Is (.agg #[.bool false, .slice none 0 0])) (xs := (ψs.map (· w.heap.size))) (n := n) (by simp [hl']) (yas (· w.heap.size) hψk)
  obtain ⟨φ', hφ'⟩ : ∃ φ, φs'[k]? = some φ := ⟨φs'[k]'(by omega), List.getElem?_eq_getElem _⟩
  refine wq [kT] [.inr 0] [.inl 0, .inr 0, .inr 1, .inr 2, .inr 3, .inr 4] S4 ?_ ?_
  ·apply jj1
   ·exact yar wA (oS 2 15) (oS 1 14)
  intro B5 a5 W5 (S5 : Sta w 32 [(7, (.row 26 2 n (CE 2 ((ψs.map (· w.heap.size)).take k ++ List.replicate (n - k) zI))))] [(16, bT), (13, Ar 2 n φs), (14, iV (n : Nat)), (15, iV k), (1, Ar 2 n φs'), (2, (Fn2 φs φs' ψs))] _ _ _)
  refine wp_seq (wp_cond_true (S5.bool 0 16 rfl) (wp_skip (thenN (wp_seq (wp_block ?_)))))
  refine wq [.val (iV k), .val (AtE 2 φ), .val φ, .new (.box 26 zI), .val (iV k), .put (.inr 3) (.box 26 φ)] [.inr 0, .inl 3] [.inl 4, .inr 0, .inr 1, .inr 2, .inr 3, .inr 4, .inr 5] S5 ?_ ?_
  ·apply jj6
   ·exact mS 3 15
   ·exact yae rfl wA rfl yby (oS 1 13) (oS 3 15) hφ rfl
   ·exact yag rfl wA rfl ycp (by decide) (ya5 (by decide) (hS k φ hφ)) (oO 1 18) rfl
   ·exact yat rfl wA rfl rfl (fun ρ w => ybi ρ _ w)
   ·exact mO 0 17
   ·exact ybj 3 rfl wA rfl (by kernel_rfl) rfl (oO 2 19) (yaf yaj ycn (hS k φ hφ)) rfl
  intro B6 a6 W6 (S6 : Sta w 32 [(7, (.row 26 2 n (CE 2 ((ψs.map (· w.heap.size)).take k ++ List.replicate (n - k) zI)))), (9, (.box 26 φ))] [(8, iV k), (16, bT), (13, Ar 2 n φs), (14, iV (n : Nat)), (15, iV k), (1, Ar 2 n φs'), (2, (Fn2 φs φs' ψs))] _ _ _)
  refine wr [.val (Is (a6.eval (.tmp 7))), .val (iV k), .val (Fn2 φs φs' ψs), .val φ, .val (Ar 2 n φs'), .val (iV k), .val (AtE 2 φ'), .val φ', .val (ψ w.heap.size), .val (REt a6 7 (2 * k)), .put (.inl 7) (.row 26 2 n (CE 2 ((ψs.map (· w.heap.size)).take (k + 1) ++ List.replicate (n - (k + 1)) zI)))] [.inr 0, .inr 1] [.inr 1, .inr 2, .inr 3, .inr 4, .inr 5, .inr 6] S6 ?_ ?_
  ·repeat' refine And.intro ?_ ?_
   ·trivial
   ·exact yct rfl wA (Or.inl rfl) (by kernel_rfl) rfl
   ·exact mS 0 8
   ·exact mS 6 2
   ·exact lod 1 wA (yau yaj (hS k φ hφ))
   ·exact mS 5 1
   ·exact mS 0 8
   ·exact yae rfl wA rfl yby (oO 4 24) (oO 5 25) hφ' rfl
   ·exact yag rfl wA rfl ycp (by decide) (ya5 (by decide) (hS' k φ' hφ')) (oO 6 26) rfl
   ·exact owe_callv2 k rfl wA rfl (oO 2 22) hφ hφ' hψk (oO 3 23) (oO 7 27) (hψ k ψ hψk).1 rfl
   ·exact ycs rfl wA rfl yby (oO 0 20) (k := 0) rfl (by kernel_rfl) (oO 1 21) hlt rfl
   ·exact yeb rfl wA rfl yow (by decide) (oO 9 29) (k := 0) rfl (by kernel_rfl) (oO 8 28) (ya5 (by decide) ((hψ k ψ hψk).2 _)) hlt (by rw [hset]; rfl)
  intro B7 a7 W7 (S7 : Sta w 32 [(7, (.row 26 2 n (CE 2 ((ψs.map (· w.heap.size)).take (k + 1) ++ List.replicate (n - (k + 1)) zI)))), (9, (.box 26 φ))] [(16, bT), (13, Ar 2 n φs), (14, iV (n : Nat)), (15, iV k), (1, Ar 2 n φs'), (2, (Fn2 φs φs' ψs))] _ _ _)
  refine inBlkN (thenN ?_)
  refine wr [.val (iV (k + 1 : Nat)), .val (iV (k + 1 : Nat))] [.inr 0, .inr 1] [.inl 1, .inr 0, .inr 1, .inr 2, .inr 4, .inr 5] S7 ?_ ?_
  ·apply jj2
   ·exact ya3 wA (oS 3 15) (yaa _)
   ·exact mO 0 30
  intro B8 a8 _ (S8 : Sta w 32 [(7, (.row 26 2 n (CE 2 ((ψs.map (· w.heap.size)).take (k + 1) ++ List.replicate (n - (k + 1)) zI)))), (9, (.box 26 φ))] [(15, iV (k + 1 : Nat)), (16, bT), (13, Ar 2 n φs), (14, iV (n : Nat)), (1, Ar 2 n φs'), (2, (Fn2 φs φs' ψs))] _ _ _)
  refine thenN ?_
  exact ⟨k + 1, ⟨by omega, B8, S8.sub [0] [2, 3, 0, 4, 5]⟩, by omega⟩
 ·have hend := yky (z := Is (.agg #[.bool false, .slice none 0 0])) (xs := (ψs.map (· w.heap.size))) (n := n) (k := k) (by simp [hl']) (by omega)
  refine wq [kF] [.inr 0] [.inl 0, .inr 0, .inr 1, .inr 2, .inr 3, .inr 4] S4 ?_ ?_
  ·apply jj1
   ·exact yaz wA (oS 2 15) (oS 1 14)
  intro B5 a5 W5 (S5 : Sta w 32 [(7, (.row 26 2 n (CE 2 ((ψs.map (· w.heap.size)).take k ++ List.replicate (n - k) zI))))] [(16, bF), (13, Ar 2 n φs), (14, iV (n : Nat)), (15, iV k), (1, Ar 2 n φs'), (2, (Fn2 φs φs' ψs))] _ _ _)
  refine wp_seq (wp_cond_false (S5.bool 0 16 rfl) (wp_exit (thenX (thenX (inBlkE (thenN ?_))))))
  obtain ⟨B6, S6⟩ : ∃ Bq, Sta w 32 [] [(7, ((LF 2 n ψs) w.heap.size)), (16, bF), (13, Ar 2 n φs), (14, iV (n : Nat)), (15, iV k), (1, Ar 2 n φs'), (2, (Fn2 φs φs' ψs))] Bq a5 W5 := ⟨_, S5.freeze 0 rfl (by simp) (fun v w' xs ho hc => ydi (by decide) v w' xs ho (by rw [hend] at hc; exact hc))⟩
  obtain ⟨a6, W6, e1, e2⟩ : ∃ a W, a5 = a ∧ W5 = W := ⟨_, _, rfl, rfl⟩
  rw [e1, e2] at S6 ⊢
  clear e1 e2
  refine wq [.val ((LF 2 n ψs) w.heap.size), .val ((LF 2 n ψs) w.heap.size)] [] [.inl 1, .inr 0, .inr 1, .inr 2, .inr 3, .inr 4, .inr 5, .inr 6] S6 ?_ ?_
  ·apply jj2
   ·exact mS 0 7
   ·exact mO 0 31
  intro B7 a7 W7 (S7 : Sta w 32 [] [(6, ((LF 2 n ψs) w.heap.size)), (7, ((LF 2 n ψs) w.heap.size)), (16, bF), (13, Ar 2 n φs), (14, iV (n : Nat)), (15, iV k), (1, Ar 2 n φs'), (2, (Fn2 φs φs' ψs))] _ _ _)
  refine wp_ret ?_
  exact ybe S7 rfl (yay S7 0 6 rfl)
def sumZ : List Int → Int
 | [] => 0
 | x :: r => x + sumZ r
theorem yjo (a b : List Int) : sumZ (a ++ b) = sumZ a + sumZ b := by
 induction a with
 | nil => simp [sumZ]
 | cons x r ih => simp only [List.cons_append, sumZ, ih]; omega
theorem yjp {l : List Int} {k : Nat} {x : Int} (h : l[k]? = some x) : sumZ (l.take (k + 1)) = sumZ (l.take k) + x := by
 rw [List.take_add_one, h, yjo]
 simp [sumZ]
theorem sumZ_len {l : List Int} {m : Nat} (h : Dl l m) (k : Nat) : (digs (sumZ (l.take k)).natAbs).length ≤ m + k := by
 induction k with
 | zero => rw [show sumZ (l.take 0) = 0 from rfl, show (digs (0 : Int).natAbs) = [] from yc9]; exact Nat.zero_le _
 | succ k ih =>
  cases hx : l[k]? with
  | none =>
   rw [List.take_add_one, hx]
   simp only [Option.toList, List.append_nil]
   omega
  | some x =>
   rw [yjp hx]
   exact dl_add ih (Nat.le_trans (h k x hx) (Nat.le_add_right _ _))
def zEl (z : Int) : El := ⟨ng z, none, (digs z.natAbs).length, 0, digs z.natAbs⟩
theorem zEl_z (z : Int) : (zEl z).z = z := by simp only [zEl, El.z]; rw [yad, yl3]
theorem tot_zs (zs : List Int) (k : Nat) : tot (zs.map zEl) k = sumZ (zs.take k) := by
 induction k with
 | zero => rfl
 | succ k ih =>
  show tot _ k + _ = _
  rw [ih, List.getElem?_map]
  cases hx : zs[k]? with
  | none =>
   rw [List.take_add_one, hx]
   simp
  | some x =>
   rw [yjp hx]
   simp [zEl_z]
theorem vn_lc {n lo : Nat} {zs : List Int} : ∀ v w, VN n zs lo v w → Lc (zs.map zEl) n v w := by
 rintro v w ⟨⟨p, c, rfl, hl, ⟨h1, h2, h3⟩, ha⟩, _⟩
 have hl' : zs.length = n := by simpa using hl
 have each : ∀ i, ∃ f : El, ∀ z, zs[i]? = some z → (∃ b o, p = some ⟨b, o, none⟩ ∧ w.cell? ⟨b, o + 2 * i, none⟩ = some (.bool f.s) ∧ w.cell? ⟨b, o + 2 * i + 1, none⟩ = some (.slice f.p f.n f.c) ∧ Sl w f.p f.n f.c f.xs) ∧ f.s = (zEl z).s ∧ f.n = (zEl z).n ∧ f.xs = (zEl z).xs := fun i => by
  cases hz : zs[i]? with
  | none => exact ⟨default, fun z h => by cases h⟩
  | some z =>
   obtain ⟨b, o, u, e1, e2, e3, r, c', e4, e5, e6⟩ := ha i (ZN z lo) (by rw [List.getElem?_map, List.getElem?_map, hz]; rfl)
   refine ⟨⟨ng z, r, (digs z.natAbs).length, c', digs z.natAbs⟩, fun z' h' => ?_⟩
   cases h'
   subst e4
   exact ⟨⟨b, o, e1, e2 0 _ rfl, e2 1 _ rfl, e5⟩, rfl, rfl, rfl⟩
 obtain ⟨F, hch⟩ : ∃ F : Nat → El, ∀ (i : Nat) (z : Int), zs[i]? = some z → (∃ b o, p = some ⟨b, o, none⟩ ∧ w.cell? ⟨b, o + 2 * i, none⟩ = some (.bool (F i).s) ∧ w.cell? ⟨b, o + 2 * i + 1, none⟩ = some (.slice (F i).p (F i).n (F i).c) ∧ Sl w (F i).p (F i).n (F i).c (F i).xs) ∧ (F i).s = (zEl z).s ∧ (F i).n = (zEl z).n ∧ (F i).xs = (zEl z).xs := ⟨fun i => Classical.choose (each i), fun i => Classical.choose_spec (each i)⟩
 refine ⟨p, c, (List.range n).map F, rfl, ⟨by simp, h1, h2, h3, fun i e he => ?_⟩, by simp [hl'], fun i f e hf he => ?_⟩
 ·obtain ⟨j, hj, rfl⟩ := yba he
  have hi : i < n := by simpa using (List.getElem?_eq_some_iff.1 hj).1
  rw [List.getElem?_range hi] at hj
  cases hj
  exact (hch i _ (List.getElem?_eq_getElem (by omega : i < zs.length))).1
 ·obtain ⟨j, hj, rfl⟩ := yba hf
  have hi : i < n := by simpa using (List.getElem?_eq_some_iff.1 hj).1
  rw [List.getElem?_range hi] at hj
  cases hj
  obtain ⟨z, hz, rfl⟩ := yba he
  exact (hch i z hz).2
theorem yo3 {α β γ : Type} {f : α → β → γ} {l : List α} {m : List β} {i : Nat} {y : γ} (h : (List.zipWith f l m)[i]? = some y) : ∃ a b, l[i]? = some a ∧ m[i]? = some b ∧ y = f a b := by
 rw [List.getElem?_zipWith] at h
 cases ha : l[i]? with
 | none => simp [ha] at h
 | some a =>
  cases hb : m[i]? with
  | none => simp [ha, hb] at h
  | some b => simp [ha, hb] at h; exact ⟨a, b, rfl, rfl, h.symm⟩
theorem fn2_zip {f k k' : Nat} {G : Int → Int → Nat → Pr} {As Bs : List Int} (hcf : ∀ args w, (callFunc f args).run Tryz.prog w = .ok (.enter f args) w) (C : ∀ a b w u v, Zv a k u w → Zv b k' v w → Calls Tryz.prog f #[u, v] w (Gives (G a b) w)) : ∀ v w, Is (.func (.func f) #[] #[]) v w → Fn2 (As.map (fun z => Zv z k)) (Bs.map (fun z => Zv z k')) (List.zipWith G As Bs) v w :=
 is_fn2 hcf (fun i φ φ' ψ h1 h2 h3 w u v hu hv => by
  obtain ⟨a, ha, rfl⟩ := yba h1
  obtain ⟨b, hb, rfl⟩ := yba h2
  obtain ⟨a', b', ha', hb', rfl⟩ := yo3 h3
  rw [ha] at ha'
  rw [hb] at hb'
  cases ha'
  cases hb'
  exact C a b w u v hu.now hv.now)
theorem zip_map {α β γ δ : Type} (f : α → β → γ) (g : γ → δ) : ∀ (l : List α) (m : List β), (List.zipWith f l m).map g = List.zipWith (fun a b => g (f a b)) l m
 | [], _ => by simp
 | _ :: _, [] => by simp
 | a :: l, b :: m => by simp [zip_map f g l m]
theorem h_pairs {n k k' : Nat} {As Bs : List Int} {F : Int → Int → Int} (hn : n ≤ 1048576) : ∀ w u v f, Hs w (Vv n As k) u → Hs w (Vv n Bs k') v → Hs w (Fn2 (As.map (fun z => Zv z k)) (Bs.map (fun z => Zv z k')) (List.zipWith (fun a b => ZN (F a b)) As Bs)) f → Calls Tryz.prog 93 #[u, v, f] w (Gives (VN n (List.zipWith F As Bs)) w) := fun w u v f hu hv hf => by
 obtain ⟨p, c, _, hl, _⟩ := hu.now
 obtain ⟨p', c', _, hl2, _⟩ := hv.now
 have hA : As.length = n := by simpa using hl
 have hB : Bs.length = n := by simpa using hl2
 rw [show (VN n (List.zipWith F As Bs)) = LF 2 n (List.zipWith (fun a b => ZN (F a b)) As Bs) from by simp only [VN, zip_map]]
 exact pairs_w w u v f n _ _ _ (by simp [hA]) (by simp [hB]) (by simp [hA, hB]) hu hv hf (fun i φ h => by obtain ⟨a, _, rfl⟩ := yba h; exact ybc) (fun i φ h => by obtain ⟨a, _, rfl⟩ := yba h; exact ybc) (fun i ψ h => by obtain ⟨a, b, _, _, rfl⟩ := yo3 h; exact ⟨ya1 _, fun lo => ya0⟩) hn
theorem dl_zip {As Bs : List Int} {k k' : Nat} (h : Dl As k) (h' : Dl Bs k') : Dl (List.zipWith (· * ·) As Bs) (k + k') := fun i z hz => by
 obtain ⟨a, b, ha, hb, rfl⟩ := yo3 hz
 exact dl_mul (h i a ha) (h' i b hb)
theorem zv_dl {A : Int} {k : Nat} {u : Value} {w : World} (h : Zv A k u w) : (digs A.natAbs).length ≤ k := by
 obtain ⟨s, p, n, c, xs, rfl, hs, rfl, hn⟩ := h
 exact Nat.le_trans (sg_dl hs) hn
theorem yjq {n k : Nat} {zs : List Int} {u : Value} {w : World} (h : Vv n zs k u w) : Dl zs k := fun i z hz => by
 obtain ⟨p, c, _, _, _, ha⟩ := h
 obtain ⟨b, o, x, _, _, _, hx⟩ := ha i _ (yas (fun z => Zv z k) hz)
 exact zv_dl hx
theorem yhy {n k : Nat} {zs : List Int} {u : Value} {w : World} (h : Vv n zs k u w) : zs.length = n := by
 obtain ⟨p, c, _, hl, _⟩ := h
 simpa using hl
theorem zsum_w (w : World) (u : Value) (es : List El) (n : Nat) (h : Lc es n u w) (hn : n ≤ 1048576) (hB : ∀ (i : Nat) (e : El), es[i]? = some e → e.n ≤ 1073741824) :
  Calls Tryz.prog 73 #[u] w (Gives (ZN (tot es n)) w) := by
 refine yam (sl := [(0, (Lc es n))]) Tryz.func73 rfl Tryz.ntmps73 (by simp) (yab rfl (lc_has h) yaq) ?_
 intro a0 S0
 refine wq [.new (.box 26 zI)] [.inl 0] [.inr 0] S0 ?_ ?_
 ·apply jj1
  ·exact yat rfl wA rfl rfl (fun ρ w => ybi ρ _ w)
 intro _ a1 _ (S1 : Sta w 5 [(2, (.box 26 zI))] [(0, Lc es n)] _ _ _)
 refine wq [.val (Lc es n), .val ((ZN (tot es n)) w.heap.size), .put (.inl 2) (.box 26 ((ZN (tot es n)) w.heap.size))] [.inr 0] [] S1 ?_ ?_
 ·apply jj3
  ·exact mS 0 0
  ·exact cc1 wA (qO 0 3 rfl) (ya1 _) (g_ztotal hn hB)
  ·exact ya7 rfl wA rfl (k := 0) rfl (by kernel_rfl) (oO 1 4) (yaf yaj ycn ya0) rfl
 intro _ a2 _ (S2 : Sta w 5 [(2, (.box 26 ((ZN (tot es n)) w.heap.size)))] [] _ _ _)
 refine wp_ret ?_
 exact ybe S2 rfl (ybb S2 0 2 rfl yaj ya0)
theorem h_zsum {n lo : Nat} {zs : List Int} (hn : n ≤ 1048576) (hl : zs.length = n) (hd : Dl zs 1073741824) : ∀ w u, Hs w (VN n zs lo) u → Calls Tryz.prog 73 #[u] w (Gives (ZN (sumZ zs)) w) := fun w u h => by
 have := zsum_w w u (zs.map zEl) n (vn_lc _ _ h.now) hn (fun i e he => by obtain ⟨z, hz, rfl⟩ := yba he; exact hd i z hz)
 rw [tot_zs, List.take_of_length_le (by omega)] at this
 exact this
theorem dot_w (w : World) (u v : Value) (n k k' : Nat) (As Bs : List Int) (h : Hs w (Vv n As k) u) (h' : Hs w (Vv n Bs k') v) (hn : n ≤ 1048576) (hs : k + k' ≤ 1073741824) :
  Calls Tryz.prog 69 #[u, v] w (Gives (ZN (sumZ (List.zipWith (· * ·) As Bs))) w) := by
 have hA := yhy h.now
 have hB := yhy h'.now
 have hd := dl_zip (yjq h.now) (yjq h'.now)
 have hd2 : Dl (List.zipWith (· * ·) As Bs) 1073741824 := fun i z hz => Nat.le_trans (hd i z hz) hs
 have hlz : (List.zipWith (· * ·) As Bs).length = n := by simp [hA, hB]
 refine yam (sl := [(0, (Vv n As k)), (1, (Vv n Bs k'))]) Tryz.func69 rfl Tryz.ntmps69 (by simp) (yab rfl (h) (yab rfl (h') yaq)) ?_
 intro a0 S0
 refine wq [.new (.box 26 zI)] [.inl 0] [.inr 0, .inr 1] S0 ?_ ?_
 ·apply jj1
  ·exact yat rfl wA rfl rfl (fun ρ w => ybi ρ _ w)
 intro _ a1 _ (S1 : Sta w 9 [(4, (.box 26 zI))] [(0, Vv n As k), (1, Vv n Bs k')] _ _ _)
 refine wq [.val (Vv n As k), .val (Vv n Bs k'), .val ((VN n (List.zipWith ((· * ·)) As Bs)) w.heap.size), .val ((ZN (sumZ (List.zipWith (· * ·) As Bs))) w.heap.size), .put (.inl 4) (.box 26 ((ZN (sumZ (List.zipWith (· * ·) As Bs))) w.heap.size))] [.inr 0] [] S1 ?_ ?_
 ·apply jj5
  ·exact mS 0 0
  ·exact mS 1 1
  ·exact yj8 rfl wA rfl (oO 0 5) (oO 1 6) ((yeu _).imp (fn2_zip (G := fun a b => ZN (((· * ·)) a b)) (fun args w => by go_simp) (fun a b => ygl (by omega)))) fresh_vn rfl (fun args w => by go_simp) (h_pairs (F := ((· * ·))) hn)
  ·exact ch1 wA (qO 2 7 rfl) (ya1 _) (h_zsum hn hlz hd2)
  ·exact ya7 rfl wA rfl (k := 0) rfl (by kernel_rfl) (oO 3 8) (yaf yaj ycn ya0) rfl
 intro _ a2 _ (S2 : Sta w 9 [(4, (.box 26 ((ZN (sumZ (List.zipWith (· * ·) As Bs))) w.heap.size)))] [] _ _ _)
 refine wp_ret ?_
 exact ybe S2 rfl (ybb S2 0 4 rfl yaj ya0)
theorem dot_y (w : World) (u v : Value) (n k k' : Nat) (As Bs : List Int) (h : Hs w (Vv n As k) u) (h' : Hs w (Vv n Bs k') v) (hn : n ≤ 1048576) (hs : k + k' ≤ 1073741824) :
  Calls Tryz.prog 42 #[u, v] w (Gives (TWO (ZN (sumZ (List.zipWith (· * ·) As Bs))) (IS (.int .i64 0))) w) := by
 refine yam (sl := [(0, (Vv n As k)), (1, (Vv n Bs k'))]) Tryz.func42 rfl Tryz.ntmps42 (by simp) (yab rfl (h) (yab rfl (h') yaq)) ?_
 intro a0 S0
 refine wq [.new (.box 26 zI), .val (iV 0)] [.inl 0] [.inl 1, .inr 0, .inr 1] S0 ?_ ?_
 ·apply jj2
  ·exact yat rfl wA rfl rfl (fun ρ w => ybi ρ _ w)
  ·exact mC
 intro _ a1 _ (S1 : Sta w 15 [(4, (.box 26 zI))] [(5, iV 0), (0, Vv n As k), (1, Vv n Bs k')] _ _ _)
 refine wp_seq ?_
 refine wq [.val (Vv n As k), .val (iV (n : Nat)), .val (Vv n Bs k'), .val (iV (n : Nat)), kF] [.inr 0] [.inl 4, .inr 0, .inr 1, .inr 2] S1 ?_ ?_
 ·apply jj5
  ·exact mS 1 0
  ·exact yal rfl wA rfl (oO 0 6) yaw Tryz.underlying39 rfl
  ·exact mS 2 1
  ·exact yal rfl wA rfl (oO 2 8) yaw Tryz.underlying39 rfl
  ·exact ybm wA (oO 1 7) (oO 3 9)
 intro _ a2 _ (S2 : Sta w 15 [(4, (.box 26 zI))] [(10, bF), (5, iV 0), (0, Vv n As k), (1, Vv n Bs k')] _ _ _)
 refine wp_cond_false (S2.bool 0 10 rfl) (wp_skip (thenN ?_))
 refine wq [.val (Vv n As k), .val (Vv n Bs k'), .val ((ZN (sumZ (List.zipWith (· * ·) As Bs))) w.heap.size), .put (.inl 4) (.box 26 ((ZN (sumZ (List.zipWith (· * ·) As Bs))) w.heap.size)), .val (iV 0)] [.inr 0] [.inl 4, .inr 0, .inr 2, .inr 3] S2 ?_ ?_
 ·apply jj5
  ·exact mS 2 0
  ·exact mS 3 1
  ·exact ch2 wA (qO 0 12 rfl) (qO 1 13 rfl) (ya1 _) (fun w u v h h' => dot_w w u v n k k' As Bs h h' hn hs)
  ·exact ya7 rfl wA rfl (k := 0) rfl (by kernel_rfl) (oO 2 14) (yaf yaj ycn ya0) rfl
  ·exact mC
 intro _ a3 _ (S3 : Sta w 15 [(4, (.box 26 ((ZN (sumZ (List.zipWith (· * ·) As Bs))) w.heap.size)))] [(5, iV 0), (10, bF), (0, Vv n As k), (1, Vv n Bs k')] _ _ _)
 refine wp_ret ?_
 exact yc8 S3 rfl (ybb S3 0 4 rfl yaj ya0) (yay S3 0 5 rfl)
theorem norm_w (w : World) (u : Value) (n k : Nat) (As : List Int) (h : Hs w (Vv n As k) u) (hn : n ≤ 1048576) (hs : k + k ≤ 1073741824) :
  Calls Tryz.prog 44 #[u] w (Gives (ZN (sumZ (List.zipWith (· * ·) As As))) w) := by
 refine yam (sl := [(0, (Vv n As k))]) Tryz.func44 rfl Tryz.ntmps44 (by simp) (yab rfl (h) yaq) ?_
 intro a0 S0
 refine wq [.new (.box 26 zI)] [.inl 0] [.inr 0] S0 ?_ ?_
 ·apply jj1
  ·exact yat rfl wA rfl rfl (fun ρ w => ybi ρ _ w)
 intro _ a1 _ (S1 : Sta w 6 [(2, (.box 26 zI))] [(0, Vv n As k)] _ _ _)
 refine wq [.val (Vv n As k), .val (Vv n As k), .val ((ZN (sumZ (List.zipWith (· * ·) As As))) w.heap.size), .put (.inl 2) (.box 26 ((ZN (sumZ (List.zipWith (· * ·) As As))) w.heap.size))] [.inr 0] [] S1 ?_ ?_
 ·apply jj4
  ·exact mS 0 0
  ·exact mS 0 0
  ·exact ch2 wA (qO 0 3 rfl) (qO 1 4 rfl) (ya1 _) (fun w u v h h' => dot_w w u v n k k As As h h' hn hs)
  ·exact ya7 rfl wA rfl (k := 0) rfl (by kernel_rfl) (oO 2 5) (yaf yaj ycn ya0) rfl
 intro _ a2 _ (S2 : Sta w 6 [(2, (.box 26 ((ZN (sumZ (List.zipWith (· * ·) As As))) w.heap.size)))] [] _ _ _)
 refine wp_ret ?_
 exact ybe S2 rfl (ybb S2 0 2 rfl yaj ya0)
theorem eqs_w (w : World) (u v : Value) (n : Nat) (ps : List (Bool × List Nat)) (h : Hs w (Vs n ps) u) (h' : Hs w (Vs n ps) v) :
  Calls Tryz.prog 28 #[u, v] w (Gives (IS (.bool true)) w) := by
 have hA : ps.length = n := by obtain ⟨p, c, _, hl, _⟩ := h.now; simpa using hl
 have hmx : n ≤ maxLen := by obtain ⟨p, c, _, hl, ⟨hc1, hc2, _⟩, _⟩ := h.now; omega
 unfold maxLen at hmx
 refine yam (sl := [(0, (Vs n ps)), (1, (Vs n ps))]) Tryz.func28 rfl Tryz.ntmps28 (by simp) (yab rfl (h) (yab rfl (h') yaq)) ?_
 intro a0 S0
 refine wq [kF] [] [.inl 0, .inr 0, .inr 1] S0 ?_ ?_
 ·apply jj1
  ·exact mC
 intro _ a1 _ (S1 : Sta w 27 [] [(4, bF), (0, (Vs n ps)), (1, (Vs n ps))] _ _ _)
 refine wp_seq ?_
 refine wq [.val (Vs n ps), .val (iV (n : Nat)), .val (Vs n ps), .val (iV (n : Nat)), kF] [] [.inl 4, .inr 0, .inr 1, .inr 2] S1 ?_ ?_
 ·apply jj5
  ·exact mS 1 0
  ·exact yal rfl wA rfl (oO 0 6) yaw Tryz.underlying39 rfl
  ·exact mS 2 1
  ·exact yal rfl wA rfl (oO 2 8) yaw Tryz.underlying39 rfl
  ·exact ybm wA (oO 1 7) (oO 3 9)
 intro _ a2 _ (S2 : Sta w 27 [] [(10, bF), (4, bF), (0, (Vs n ps)), (1, (Vs n ps))] _ _ _)
 refine wp_cond_false (S2.bool 0 10 rfl) (wp_skip (thenN (wp_seq ?_)))
 refine wq [.val (iV 0)] [] [.inl 0, .inr 0, .inr 1, .inr 2, .inr 3] S2 ?_ ?_
 ·apply jj1
  ·exact mC
 intro B3 a3 _ (S3 : Sta w 27 [] [(5, iV 0), (10, bF), (4, bF), (0, (Vs n ps)), (1, (Vs n ps))] _ _ _)
 refine wp_block ?_
 refine yan (fun (k0 : Nat) a W => (k0 ≤ n) ∧ ∃ Bq, Sta w 27 [] [(5, iV k0), (0, (Vs n ps)), (1, (Vs n ps))] Bq a W) (fun (k0 : Nat) => n - k0) ?_ 0 ⟨Nat.zero_le _, B3, S3.sub [] [0, 3, 4]⟩
 rintro k0 a4 _ ⟨hcond, _, S4⟩
 by_cases hlt : k0 < n
 ·obtain ⟨q, hq⟩ : ∃ q, ps[k0]? = some q := ⟨ps[k0]'(by omega), List.getElem?_eq_getElem _⟩
  refine wp_seq ?_
  refine wq [.val (iV k0), .val (Vs n ps), .val (iV (n : Nat)), kT] [] [.inl 3, .inr 0, .inr 1, .inr 2] S4 ?_ ?_
  ·apply jj4
   ·exact mS 0 5
   ·exact mS 1 0
   ·exact yal rfl wA rfl (oO 1 12) yaw Tryz.underlying39 rfl
   ·exact yar wA (oO 0 11) (oO 2 13)
  intro B5 a5 W5 (S5 : Sta w 27 [] [(14, bT), (5, iV k0), (0, (Vs n ps)), (1, (Vs n ps))] _ _ _)
  refine wp_cond_true (S5.bool 0 14 rfl) (wp_skip (thenN (wp_seq (wp_block ?_))))
  refine wq [.val (Vs n ps), .val (iV k0), .val (AtE 2 (Nmx (q.1) (q.2))), .val (Nmx (q.1) (q.2)), .val (Vs n ps), .val (iV k0), .val (AtE 2 (Nmx (q.1) (q.2))), .val (Nmx (q.1) (q.2)), kT, kF] [] [.inl 9, .inr 0, .inr 1, .inr 2, .inr 3] S5 ?_ ?_
  ·repeat' refine And.intro ?_ ?_
   ·trivial
   ·exact mS 2 0
   ·exact mS 1 5
   ·exact yae rfl wA rfl yby (oO 0 17) (oO 1 18) (yas _ hq) rfl
   ·exact yag rfl wA rfl ycp (by decide) (ya5 (by decide) yhg) (oO 2 19) rfl
   ·exact mS 3 1
   ·exact mS 1 5
   ·exact yae rfl wA rfl yby (oO 4 21) (oO 5 22) (yas _ hq) rfl
   ·exact yag rfl wA rfl ycp (by decide) (ya5 (by decide) yhg) (oO 6 23) rfl
   ·exact cc2 wA (qO 3 20 rfl) (qO 7 24 rfl) (yak _) h_eq
   ·exact yie wA (oO 8 25)
  intro B6 a6 W6 (S6 : Sta w 27 [] [(26, bF), (14, bT), (5, iV k0), (0, (Vs n ps)), (1, (Vs n ps))] _ _ _)
  refine wp_cond_false (S6.bool 0 26 rfl) (wp_skip (inBlkN (thenN ?_)))
  refine wr [.val (iV k0), .val (iV (k0 + 1 : Nat)), .val (iV (k0 + 1 : Nat))] [] [.inl 2, .inr 0, .inr 1, .inr 3, .inr 4] S6 ?_ ?_
  ·apply jj3
   ·exact mS 2 5
   ·exact ya3 wA (oO 0 15) (yaa _)
   ·exact mO 1 16
  intro B7 a7 _ (S7 : Sta w 27 [] [(5, iV (k0 + 1 : Nat)), (26, bF), (14, bT), (0, (Vs n ps)), (1, (Vs n ps))] _ _ _)
  refine thenN ?_
  exact ⟨k0 + 1, ⟨by omega, B7, S7.sub [] [0, 3, 4]⟩, by omega⟩
 ·skip
  refine wp_seq ?_
  refine wq [.val (iV k0), .val (Vs n ps), .val (iV (n : Nat)), kF] [] [.inl 3, .inr 0, .inr 1, .inr 2] S4 ?_ ?_
  ·apply jj4
   ·exact mS 0 5
   ·exact mS 1 0
   ·exact yal rfl wA rfl (oO 1 12) yaw Tryz.underlying39 rfl
   ·exact yaz wA (oO 0 11) (oO 2 13)
  intro B5 a5 W5 (S5 : Sta w 27 [] [(14, bF), (5, iV k0), (0, (Vs n ps)), (1, (Vs n ps))] _ _ _)
  refine wp_cond_false (S5.bool 0 14 rfl) (wp_exit (thenX (thenX (inBlkE (thenN ?_)))))
  refine wq [kT] [] [.inl 0, .inr 0, .inr 1, .inr 2, .inr 3] S5 ?_ ?_
  ·apply jj1
   ·exact mC
  intro B6 a6 W6 (S6 : Sta w 27 [] [(4, bT), (14, bF), (5, iV k0), (0, (Vs n ps)), (1, (Vs n ps))] _ _ _)
  refine wp_ret ?_
  exact ybe S6 rfl (yay S6 0 4 rfl)
end Go.Proofs.YtdiagoaakadniaaGreat
