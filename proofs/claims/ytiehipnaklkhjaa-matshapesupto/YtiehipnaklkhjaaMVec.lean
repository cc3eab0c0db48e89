/-
  Vectors: mat and the document.
-/
import Derived.Test.YtiehipnaklkhjaaMEach
namespace Go.Proofs.Ytiehipnaklkhjaa
open Go Go.RowKit Nt
set_option linter.unusedSimpArgs false
set_option linter.unusedVariables false
set_option maxRecDepth 20000


/-! Sums of lists. -/
def sumZ : List Int → Int
  | [] => 0
  | x :: r => x + sumZ r
theorem sumZ_append (a b : List Int) : sumZ (a ++ b) = sumZ a + sumZ b := by
  induction a with
  | nil => simp [sumZ]
  | cons x r ih => simp only [List.cons_append, sumZ, ih]; omega
theorem sumZ_take {l : List Int} {k : Nat} {x : Int} (h : l[k]? = some x) : sumZ (l.take (k + 1)) = sumZ (l.take k) + x := by
  rw [List.take_add_one, h, sumZ_append]
  simp [sumZ]
theorem sumZ_len {l : List Int} {m : Nat} (h : Dl l m) (k : Nat) : (digs (sumZ (l.take k)).natAbs).length ≤ m + k := by
  induction k with
  | zero => rw [show sumZ (l.take 0) = 0 from rfl, show (digs (0 : Int).natAbs) = [] from digs_zero]; exact Nat.zero_le _
  | succ k ih =>
    cases hx : l[k]? with
    | none =>
      rw [List.take_add_one, hx]
      simp only [Option.toList, List.append_nil]
      omega
    | some x =>
      rw [sumZ_take hx]
      exact dl_add ih (Nat.le_trans (h k x hx) (Nat.le_add_right _ _))
def zEl (z : Int) : El := ⟨ng z, none, (digs z.natAbs).length, 0, digs z.natAbs⟩
theorem zEl_z (z : Int) : (zEl z).z = z := by simp only [zEl, El.z]; rw [val_digs, sg_sign]
theorem tot_zs (zs : List Int) (k : Nat) : tot (zs.map zEl) k = sumZ (zs.take k) := by
  induction k with
  | zero => rfl
  | succ k ih =>
    show tot _ k + _ = _
    rw [ih, List.getElem?_map]
    cases hx : zs[k]? with
    | none =>
      rw [List.take_add_one, hx]
      simp
    | some x =>
      rw [sumZ_take hx]
      simp [zEl_z]
theorem vn_lc {n lo : Nat} {zs : List Int} : ∀ v w, VN n zs lo v w → Lc (zs.map zEl) n v w := by
  rintro v w ⟨⟨p, c, rfl, hl, ⟨h1, h2, h3⟩, ha⟩, _⟩
  have hl' : zs.length = n := by simpa using hl
  have each : ∀ i, ∃ f : El, ∀ z, zs[i]? = some z → (∃ b o, p = some ⟨b, o, none⟩ ∧ w.cell? ⟨b, o + 2 * i, none⟩ = some (.bool f.s) ∧ w.cell? ⟨b, o + 2 * i + 1, none⟩ = some (.slice f.p f.n f.c) ∧ Sl w f.p f.n f.c f.xs) ∧ f.s = (zEl z).s ∧ f.n = (zEl z).n ∧ f.xs = (zEl z).xs := fun i => by
    cases hz : zs[i]? with
    | none => exact ⟨default, fun z h => by cases h⟩
    | some z =>
      obtain ⟨b, o, u, e1, e2, e3, r, c', e4, e5, e6⟩ := ha i (ZN z lo) (by rw [List.getElem?_map, List.getElem?_map, hz]; rfl)
      refine ⟨⟨ng z, r, (digs z.natAbs).length, c', digs z.natAbs⟩, fun z' h' => ?_⟩
      cases h'
      subst e4
      exact ⟨⟨b, o, e1, e2 0 _ rfl, e2 1 _ rfl, e5⟩, rfl, rfl, rfl⟩
  obtain ⟨F, hch⟩ : ∃ F : Nat → El, ∀ (i : Nat) (z : Int), zs[i]? = some z → (∃ b o, p = some ⟨b, o, none⟩ ∧ w.cell? ⟨b, o + 2 * i, none⟩ = some (.bool (F i).s) ∧ w.cell? ⟨b, o + 2 * i + 1, none⟩ = some (.slice (F i).p (F i).n (F i).c) ∧ Sl w (F i).p (F i).n (F i).c (F i).xs) ∧ (F i).s = (zEl z).s ∧ (F i).n = (zEl z).n ∧ (F i).xs = (zEl z).xs := ⟨fun i => Classical.choose (each i), fun i => Classical.choose_spec (each i)⟩
  refine ⟨p, c, (List.range n).map F, rfl, ⟨by simp, h1, h2, h3, fun i e he => ?_⟩, by simp [hl'], fun i f e hf he => ?_⟩
  · obtain ⟨j, hj, rfl⟩ := map_get he
    have hi : i < n := by simpa using (List.getElem?_eq_some_iff.1 hj).1
    rw [List.getElem?_range hi] at hj
    cases hj
    exact (hch i _ (List.getElem?_eq_getElem (by omega : i < zs.length))).1
  · obtain ⟨j, hj, rfl⟩ := map_get hf
    have hi : i < n := by simpa using (List.getElem?_eq_some_iff.1 hj).1
    rw [List.getElem?_range hi] at hj
    cases hj
    obtain ⟨z, hz, rfl⟩ := map_get he
    exact (hch i z hz).2
/-! Functions that go over lists. -/
theorem zip_get {α β γ : Type} {f : α → β → γ} {l : List α} {m : List β} {i : Nat} {y : γ} (h : (List.zipWith f l m)[i]? = some y) : ∃ a b, l[i]? = some a ∧ m[i]? = some b ∧ y = f a b := by
  rw [List.getElem?_zipWith] at h
  cases ha : l[i]? with
  | none => simp [ha] at h
  | some a =>
    cases hb : m[i]? with
    | none => simp [ha, hb] at h
    | some b => simp [ha, hb] at h; exact ⟨a, b, rfl, rfl, h.symm⟩
theorem zip_get' {α β γ : Type} (f : α → β → γ) {l : List α} {m : List β} {i : Nat} {a : α} {b : β} (h : l[i]? = some a) (h' : m[i]? = some b) : (List.zipWith f l m)[i]? = some (f a b) := by rw [List.getElem?_zipWith, h, h']
theorem fn1_map {f k : Nat} {G : Int → Nat → Pr} {As : List Int} (hcf : ∀ args w, (callFunc f args).run Try.prog w = .ok (.enter f args) w) (C : ∀ a w u, Zv a k u w → Calls Try.prog f #[u] w (Gives (G a) w)) : ∀ v w, Is (.func (.func f) #[] #[]) v w → Fn1 (As.map (fun z => Zv z k)) (As.map G) v w :=
  is_fn1 hcf (fun i φ ψ h1 h2 w u hu => by
    obtain ⟨a, ha, rfl⟩ := map_get h1
    obtain ⟨b, hb, rfl⟩ := map_get h2
    rw [ha] at hb
    cases hb
    exact C a w u hu.now)
theorem fn2_zip {f k k' : Nat} {G : Int → Int → Nat → Pr} {As Bs : List Int} (hcf : ∀ args w, (callFunc f args).run Try.prog w = .ok (.enter f args) w) (C : ∀ a b w u v, Zv a k u w → Zv b k' v w → Calls Try.prog f #[u, v] w (Gives (G a b) w)) : ∀ v w, Is (.func (.func f) #[] #[]) v w → Fn2 (As.map (fun z => Zv z k)) (Bs.map (fun z => Zv z k')) (List.zipWith G As Bs) v w :=
  is_fn2 hcf (fun i φ φ' ψ h1 h2 h3 w u v hu hv => by
    obtain ⟨a, ha, rfl⟩ := map_get h1
    obtain ⟨b, hb, rfl⟩ := map_get h2
    obtain ⟨a', b', ha', hb', rfl⟩ := zip_get h3
    rw [ha] at ha'
    rw [hb] at hb'
    cases ha'
    cases hb'
    exact C a b w u v hu.now hv.now)
theorem h_each {n k : Nat} {As : List Int} {F : Int → Int} (hn : n ≤ 1048576) : ∀ w u f, Hs w (Vv n As k) u → Hs w (Fn1 (As.map (fun z => Zv z k)) (As.map (fun a => ZN (F a)))) f → Calls Try.prog 56 #[u, f] w (Gives (VN n (As.map F)) w) := fun w u f hu hf => by
  obtain ⟨p, c, _, hl, _⟩ := hu.now
  have hl' : As.length = n := by simpa using hl
  rw [show (VN n (As.map F)) = LF 2 n (As.map (fun a => ZN (F a))) from by simp only [VN, List.map_map]; rfl]
  exact each_w w u f n _ _ (by simp [hl']) (by simp [hl']) hu hf (fun i φ h => by obtain ⟨a, _, rfl⟩ := map_get h; exact shp_zv) (fun i ψ h => by obtain ⟨a, _, rfl⟩ := map_get h; exact ⟨fresh_zn _, fun lo => shp_zn⟩) hn
theorem zip_map {α β γ δ : Type} (f : α → β → γ) (g : γ → δ) : ∀ (l : List α) (m : List β), (List.zipWith f l m).map g = List.zipWith (fun a b => g (f a b)) l m
  | [], _ => by simp
  | _ :: _, [] => by simp
  | a :: l, b :: m => by simp [zip_map f g l m]
theorem h_pairs {n k k' : Nat} {As Bs : List Int} {F : Int → Int → Int} (hn : n ≤ 1048576) : ∀ w u v f, Hs w (Vv n As k) u → Hs w (Vv n Bs k') v → Hs w (Fn2 (As.map (fun z => Zv z k)) (Bs.map (fun z => Zv z k')) (List.zipWith (fun a b => ZN (F a b)) As Bs)) f → Calls Try.prog 92 #[u, v, f] w (Gives (VN n (List.zipWith F As Bs)) w) := fun w u v f hu hv hf => by
  obtain ⟨p, c, _, hl, _⟩ := hu.now
  obtain ⟨p', c', _, hl2, _⟩ := hv.now
  have hA : As.length = n := by simpa using hl
  have hB : Bs.length = n := by simpa using hl2
  rw [show (VN n (List.zipWith F As Bs)) = LF 2 n (List.zipWith (fun a b => ZN (F a b)) As Bs) from by simp only [VN, zip_map]]
  exact pairs_w w u v f n _ _ _ (by simp [hA]) (by simp [hB]) (by simp [hA, hB]) hu hv hf (fun i φ h => by obtain ⟨a, _, rfl⟩ := map_get h; exact shp_zv) (fun i φ h => by obtain ⟨a, _, rfl⟩ := map_get h; exact shp_zv) (fun i ψ h => by obtain ⟨a, b, _, _, rfl⟩ := zip_get h; exact ⟨fresh_zn _, fun lo => shp_zn⟩) hn
theorem dl_zip {As Bs : List Int} {k k' : Nat} (h : Dl As k) (h' : Dl Bs k') : Dl (List.zipWith (· * ·) As Bs) (k + k') := fun i z hz => by
  obtain ⟨a, b, ha, hb, rfl⟩ := zip_get hz
  exact dl_mul (h i a ha) (h' i b hb)
theorem zv_dl {A : Int} {k : Nat} {u : Value} {w : World} (h : Zv A k u w) : (digs A.natAbs).length ≤ k := by
  obtain ⟨s, p, n, c, xs, rfl, hs, rfl, hn⟩ := h
  exact Nat.le_trans (sg_dl hs) hn
theorem vv_dl {n k : Nat} {zs : List Int} {u : Value} {w : World} (h : Vv n zs k u w) : Dl zs k := fun i z hz => by
  obtain ⟨p, c, _, _, _, ha⟩ := h
  obtain ⟨b, o, x, _, _, _, hx⟩ := ha i _ (map_get' (fun z => Zv z k) hz)
  exact zv_dl hx
theorem vv_len {n k : Nat} {zs : List Int} {u : Value} {w : World} (h : Vv n zs k u w) : zs.length = n := by
  obtain ⟨p, c, _, hl, _⟩ := h
  simpa using hl
theorem lf_cast {sz n : Nat} {ψs ψs' : List (Nat → Pr)} (h : ψs = ψs') : LF sz n ψs = LF sz n ψs' := by rw [h]

set_option maxHeartbeats 400000 in
theorem zsum_w (w : World) (u : Value) (es : List El) (n : Nat) (h : Lc es n u w) (hn : n ≤ 1048576) (hB : ∀ (i : Nat) (e : El), es[i]? = some e → e.n ≤ 1073741824) :
    Calls Try.prog 91 #[u] w (Gives (ZN (tot es n)) w) := by
  refine calls_sta (sl := [(0, (Lc es n))]) Try.func91 rfl Try.ntmps91 (by simp) (args_cons rfl (lc_has h) args_nil) ?_
  intro a0 S0
  refine wp_stmt_seq [.new (.box 39 (Is (.agg #[.bool false, .slice none 0 0])))] [.inl 0] [.inr 0] follows S0 rfl (by kernel_rfl) ?_ ?_
  · refine ⟨trivial, ?_⟩
    · exact owe_new rfl (wants_all rfl) rfl rfl (fun ρ w => alloc_int ρ _ w)
  intro B1 a1 W1 S1
  replace S1 : Sta w 5 [(2, (.box 39 (Is (.agg #[.bool false, .slice none 0 0]))))] [(0, (Lc es n))] B1 a1 W1 := S1
  refine wp_stmt_seq [.val (Lc es n),
      .val ((ZN (tot es n)) w.heap.size),
      .put (.inl 2) (.box 39 ((ZN (tot es n)) w.heap.size))] [.inr 0] [] follows S1 rfl (by kernel_rfl) ?_ ?_
  · refine ⟨⟨⟨trivial, ?_⟩, ?_⟩, ?_⟩
    · exact owe_move rfl (wants_all rfl) (Or.inl rfl) (opnd_slot 0 0 rfl (by kernel_rfl)) rfl
    · exact owe_call1 rfl (wants_all rfl) rfl (opnd_op 0 3 (by kernel_rfl) rfl) (fresh_zn _) rfl (fun args w => by go_simp) (g_ztotal hn hB)
    · exact owe_set rfl (wants_all rfl) rfl (k := 0) rfl (by kernel_rfl) (opnd_op 1 4 (by kernel_rfl) rfl) (stores_of strct_int shp_z0 shp_zn) rfl
  intro B2 a2 W2 S2
  replace S2 : Sta w 5 [(2, (.box 39 ((ZN (tot es n)) w.heap.size)))] [] B2 a2 W2 := S2
  refine wp_ret ?_
  exact end_one S2 rfl (res_cell S2 0 2 rfl strct_int shp_zn)

theorem h_zsum {n lo : Nat} {zs : List Int} (hn : n ≤ 1048576) (hl : zs.length = n) (hd : Dl zs 1073741824) : ∀ w u, Hs w (VN n zs lo) u → Calls Try.prog 91 #[u] w (Gives (ZN (sumZ zs)) w) := fun w u h => by
  have := zsum_w w u (zs.map zEl) n (vn_lc _ _ h.now) hn (fun i e he => by obtain ⟨z, hz, rfl⟩ := map_get he; exact hd i z hz)
  rw [tot_zs, List.take_of_length_le (by omega)] at this
  exact this

set_option maxHeartbeats 400000 in
theorem dot_w (w : World) (u v : Value) (n k k' : Nat) (As Bs : List Int) (h : Hs w (Vv n As k) u) (h' : Hs w (Vv n Bs k') v) (hn : n ≤ 1048576) (hs : k + k' ≤ 1073741824) :
    Calls Try.prog 59 #[u, v] w (Gives (ZN (sumZ (List.zipWith (· * ·) As Bs))) w) := by
  have hA := vv_len h.now
  have hB := vv_len h'.now
  have hd := dl_zip (vv_dl h.now) (vv_dl h'.now)
  have hd2 : Dl (List.zipWith (· * ·) As Bs) 1073741824 := fun i z hz => Nat.le_trans (hd i z hz) hs
  have hlz : (List.zipWith (· * ·) As Bs).length = n := by simp [hA, hB]
  refine calls_sta (sl := [(0, (Vv n As k)), (1, (Vv n Bs k'))]) Try.func59 rfl Try.ntmps59 (by simp) (args_cons rfl (h) (args_cons rfl (h') args_nil)) ?_
  intro a0 S0
  refine wp_stmt_seq [.new (.box 39 (Is (.agg #[.bool false, .slice none 0 0])))] [.inl 0] [.inr 0, .inr 1] follows S0 rfl (by kernel_rfl) ?_ ?_
  · refine ⟨trivial, ?_⟩
    · exact owe_new rfl (wants_all rfl) rfl rfl (fun ρ w => alloc_int ρ _ w)
  intro B1 a1 W1 S1
  replace S1 : Sta w 9 [(4, (.box 39 (Is (.agg #[.bool false, .slice none 0 0]))))] [(0, (Vv n As k)), (1, (Vv n Bs k'))] B1 a1 W1 := S1
  refine wp_stmt_seq [.val (Vv n As k),
      .val (Vv n Bs k'),
      .val ((VN n (List.zipWith ((· * ·)) As Bs)) w.heap.size),
      .val ((ZN (sumZ (List.zipWith (· * ·) As Bs))) w.heap.size),
      .put (.inl 4) (.box 39 ((ZN (sumZ (List.zipWith (· * ·) As Bs))) w.heap.size))] [.inr 0] [] follows S1 rfl (by kernel_rfl) ?_ ?_
  · refine ⟨⟨⟨⟨⟨trivial, ?_⟩, ?_⟩, ?_⟩, ?_⟩, ?_⟩
    · exact owe_move rfl (wants_all rfl) (Or.inl rfl) (opnd_slot 0 0 rfl (by kernel_rfl)) rfl
    · exact owe_move rfl (wants_all rfl) (Or.inl rfl) (opnd_slot 1 1 rfl (by kernel_rfl)) rfl
    · exact owe_callh3 rfl (wants_all rfl) rfl (opnd_op 0 5 (by kernel_rfl) rfl) (opnd_op 1 6 (by kernel_rfl) rfl) ((opnd_func _).imp (fn2_zip (G := fun a b => ZN (((· * ·)) a b)) (fun args w => by go_simp) (fun a b => g_zmul (by omega)))) fresh_vn rfl (fun args w => by go_simp) (h_pairs (F := ((· * ·))) hn)
    · exact owe_callh1 rfl (wants_all rfl) rfl (opnd_op 2 7 (by kernel_rfl) rfl) (fresh_zn _) rfl (fun args w => by go_simp) (h_zsum hn hlz hd2)
    · exact owe_set rfl (wants_all rfl) rfl (k := 0) rfl (by kernel_rfl) (opnd_op 3 8 (by kernel_rfl) rfl) (stores_of strct_int shp_z0 shp_zn) rfl
  intro B2 a2 W2 S2
  replace S2 : Sta w 9 [(4, (.box 39 ((ZN (sumZ (List.zipWith (· * ·) As Bs))) w.heap.size)))] [] B2 a2 W2 := S2
  refine wp_ret ?_
  exact end_one S2 rfl (res_cell S2 0 4 rfl strct_int shp_zn)


/-! What is answered where lengths are not alike. -/
def errE (n m : Nat) : Int := if n = m then 0 else 8
def dotE (n m : Nat) (As Bs : List Int) : Int := if n = m then sumZ (List.zipWith (· * ·) As Bs) else 0
def lenE (n m : Nat) : Nat := if n = m then n else 0
def zipE (F : Int → Int → Int) (n m : Nat) (As Bs : List Int) : List Int := if n = m then List.zipWith F As Bs else []
theorem give_two {φ φ' ψ ψ' : Nat → Pr} {f : FuncId} {args : Array Value} {w : World} (h : Calls Try.prog f args w (Gives (TWO φ ψ) w)) (h1 : ∀ lo v w, φ lo v w → φ' lo v w) (h2 : ∀ lo v w, ψ lo v w → ψ' lo v w) : Calls Try.prog f args w (Gives (TWO φ' ψ') w) := h.mono (by
  rintro e w' ⟨v, rfl, hb, x, y, rfl, hx, hy⟩
  exact ⟨_, rfl, hb, x, y, rfl, h1 _ _ _ hx, h2 _ _ _ hy⟩)
theorem zero_zn' : ∀ lo v w, IS (.agg #[.bool false, .slice none 0 0]) lo v w → ZN 0 lo v w := fun lo v w e => ⟨none, 0, e, Sl.none w, fun b o e => by cases e⟩
theorem nil_vn' : ∀ lo v w, IS (.slice none 0 0) lo v w → VN 0 [] lo v w := fun lo v w e => nil_vn v w e
theorem dotE_len {n m k k' : Nat} {As Bs : List Int} (h : Dl As k) (h' : Dl Bs k') (hA : As.length = n) : (digs (dotE n m As Bs).natAbs).length ≤ k + k' + n := by
  unfold dotE
  split
  · have := sumZ_len (dl_zip h h') n
    rwa [List.take_of_length_le (by simp; omega)] at this
  · rw [show (digs (0 : Int).natAbs) = [] from digs_zero]; exact Nat.zero_le _
theorem zipE_len {F : Int → Int → Int} {n m : Nat} {As Bs : List Int} (hA : As.length = n) (hB : Bs.length = m) : (zipE F n m As Bs).length = lenE n m := by
  unfold zipE lenE
  split
  · simp [hA, hB]; omega
  · rfl

set_option maxHeartbeats 400000 in
theorem dot_y (w : World) (u v : Value) (n k k' : Nat) (As Bs : List Int) (h : Hs w (Vv n As k) u) (h' : Hs w (Vv n Bs k') v) (hn : n ≤ 1048576) (hs : k + k' ≤ 1073741824) :
    Calls Try.prog 19 #[u, v] w (Gives (TWO (ZN (sumZ (List.zipWith (· * ·) As Bs))) (IS (.int .i64 0))) w) := by
  refine calls_sta (sl := [(0, (Vv n As k)), (1, (Vv n Bs k'))]) Try.func19 rfl Try.ntmps19 (by simp) (args_cons rfl (h) (args_cons rfl (h') args_nil)) ?_
  intro a0 S0
  refine wp_stmt_seq [.new (.box 39 (Is (.agg #[.bool false, .slice none 0 0]))),
      .val (Is (.int .i64 0))] [.inl 0] [.inl 1, .inr 0, .inr 1] follows S0 rfl (by kernel_rfl) ?_ ?_
  · refine ⟨⟨trivial, ?_⟩, ?_⟩
    · exact owe_new rfl (wants_all rfl) rfl rfl (fun ρ w => alloc_int ρ _ w)
    · exact owe_move rfl (wants_all rfl) (Or.inr rfl) (opnd_const _) rfl
  intro B1 a1 W1 S1
  replace S1 : Sta w 15 [(4, (.box 39 (Is (.agg #[.bool false, .slice none 0 0]))))] [(5, (Is (.int .i64 0))), (0, (Vv n As k)), (1, (Vv n Bs k'))] B1 a1 W1 := S1
  refine wp_seq ?_
  refine wp_stmt_seq [.val (Vv n As k),
      .val (Is (.int .i64 (n : Nat))),
      .val (Vv n Bs k'),
      .val (Is (.int .i64 (n : Nat))),
      .val (Is (.bool false))] [.inr 0] [.inl 4, .inr 0, .inr 1, .inr 2] follows S1 rfl (by kernel_rfl) ?_ ?_
  · refine ⟨⟨⟨⟨⟨trivial, ?_⟩, ?_⟩, ?_⟩, ?_⟩, ?_⟩
    · exact owe_move rfl (wants_all rfl) (Or.inl rfl) (opnd_slot 1 0 rfl (by kernel_rfl)) rfl
    · exact owe_len rfl (wants_all rfl) rfl (opnd_op 0 6 (by kernel_rfl) rfl) ar_len Try.underlying36 rfl
    · exact owe_move rfl (wants_all rfl) (Or.inl rfl) (opnd_slot 2 1 rfl (by kernel_rfl)) rfl
    · exact owe_len rfl (wants_all rfl) rfl (opnd_op 2 8 (by kernel_rfl) rfl) ar_len Try.underlying36 rfl
    · exact owe_bin rfl (wants_all rfl) rfl (opnd_op 1 7 (by kernel_rfl) rfl) (opnd_op 3 9 (by kernel_rfl) rfl) rfl (fun ρ w h1 h2 => by exact run_neq_int_f ρ _ _ _ w _ _ (by omega) h1 h2)
  intro B2 a2 W2 S2
  replace S2 : Sta w 15 [(4, (.box 39 (Is (.agg #[.bool false, .slice none 0 0]))))] [(10, (Is (.bool false))), (5, (Is (.int .i64 0))), (0, (Vv n As k)), (1, (Vv n Bs k'))] B2 a2 W2 := S2
  refine wp_cond_false (S2.bool 0 10 rfl) ?_
  refine wp_skip ?_
  refine thenN ?_
  refine wp_stmt_seq [.val (Vv n As k),
      .val (Vv n Bs k'),
      .val ((ZN (sumZ (List.zipWith (· * ·) As Bs))) w.heap.size),
      .put (.inl 4) (.box 39 ((ZN (sumZ (List.zipWith (· * ·) As Bs))) w.heap.size)),
      .val (Is (.int .i64 0))] [.inr 0] [.inl 4, .inr 0, .inr 2, .inr 3] follows S2 rfl (by kernel_rfl) ?_ ?_
  · refine ⟨⟨⟨⟨⟨trivial, ?_⟩, ?_⟩, ?_⟩, ?_⟩, ?_⟩
    · exact owe_move rfl (wants_all rfl) (Or.inl rfl) (opnd_slot 2 0 rfl (by kernel_rfl)) rfl
    · exact owe_move rfl (wants_all rfl) (Or.inl rfl) (opnd_slot 3 1 rfl (by kernel_rfl)) rfl
    · exact owe_callh2 rfl (wants_all rfl) rfl (opnd_op 0 12 (by kernel_rfl) rfl) (opnd_op 1 13 (by kernel_rfl) rfl) (fresh_zn _) rfl (fun args w => by go_simp) (fun w u v h h' => dot_w w u v n k k' As Bs h h' hn hs)
    · exact owe_set rfl (wants_all rfl) rfl (k := 0) rfl (by kernel_rfl) (opnd_op 2 14 (by kernel_rfl) rfl) (stores_of strct_int shp_z0 shp_zn) rfl
    · exact owe_move rfl (wants_all rfl) (Or.inr rfl) (opnd_const _) rfl
  intro B3 a3 W3 S3
  replace S3 : Sta w 15 [(4, (.box 39 ((ZN (sumZ (List.zipWith (· * ·) As Bs))) w.heap.size)))] [(5, (Is (.int .i64 0))), (10, (Is (.bool false))), (0, (Vv n As k)), (1, (Vv n Bs k'))] B3 a3 W3 := S3
  refine wp_ret ?_
  exact end_two S3 rfl (res_cell S3 0 4 rfl strct_int shp_zn) (res_tmp S3 0 5 rfl)

set_option maxHeartbeats 400000 in
theorem dot_n (w : World) (u v : Value) (n m k k' : Nat) (As Bs : List Int) (h : Hs w (Vv n As k) u) (h' : Hs w (Vv m Bs k') v) (hne : n ≠ m) :
    Calls Try.prog 19 #[u, v] w (Gives (TWO (IS (.agg #[.bool false, .slice none 0 0])) (IS (.int .i64 8))) w) := by
  refine calls_sta (sl := [(0, (Vv n As k)), (1, (Vv m Bs k'))]) Try.func19 rfl Try.ntmps19 (by simp) (args_cons rfl (h) (args_cons rfl (h') args_nil)) ?_
  intro a0 S0
  refine wp_stmt_seq [.new (.box 39 (Is (.agg #[.bool false, .slice none 0 0]))),
      .val (Is (.int .i64 0))] [.inl 0] [.inl 1, .inr 0, .inr 1] follows S0 rfl (by kernel_rfl) ?_ ?_
  · refine ⟨⟨trivial, ?_⟩, ?_⟩
    · exact owe_new rfl (wants_all rfl) rfl rfl (fun ρ w => alloc_int ρ _ w)
    · exact owe_move rfl (wants_all rfl) (Or.inr rfl) (opnd_const _) rfl
  intro B1 a1 W1 S1
  replace S1 : Sta w 15 [(4, (.box 39 (Is (.agg #[.bool false, .slice none 0 0]))))] [(5, (Is (.int .i64 0))), (0, (Vv n As k)), (1, (Vv m Bs k'))] B1 a1 W1 := S1
  refine wp_seq ?_
  refine wp_stmt_seq [.val (Vv n As k),
      .val (Is (.int .i64 (n : Nat))),
      .val (Vv m Bs k'),
      .val (Is (.int .i64 (m : Nat))),
      .val (Is (.bool true))] [.inr 0] [.inl 4, .inr 0, .inr 1, .inr 2] follows S1 rfl (by kernel_rfl) ?_ ?_
  · refine ⟨⟨⟨⟨⟨trivial, ?_⟩, ?_⟩, ?_⟩, ?_⟩, ?_⟩
    · exact owe_move rfl (wants_all rfl) (Or.inl rfl) (opnd_slot 1 0 rfl (by kernel_rfl)) rfl
    · exact owe_len rfl (wants_all rfl) rfl (opnd_op 0 6 (by kernel_rfl) rfl) ar_len Try.underlying36 rfl
    · exact owe_move rfl (wants_all rfl) (Or.inl rfl) (opnd_slot 2 1 rfl (by kernel_rfl)) rfl
    · exact owe_len rfl (wants_all rfl) rfl (opnd_op 2 8 (by kernel_rfl) rfl) ar_len Try.underlying36 rfl
    · exact owe_bin rfl (wants_all rfl) rfl (opnd_op 1 7 (by kernel_rfl) rfl) (opnd_op 3 9 (by kernel_rfl) rfl) rfl (fun ρ w h1 h2 => by exact run_neq_int_t ρ _ _ _ w _ _ (by omega) h1 h2)
  intro B2 a2 W2 S2
  replace S2 : Sta w 15 [(4, (.box 39 (Is (.agg #[.bool false, .slice none 0 0]))))] [(10, (Is (.bool true))), (5, (Is (.int .i64 0))), (0, (Vv n As k)), (1, (Vv m Bs k'))] B2 a2 W2 := S2
  refine wp_cond_true (S2.bool 0 10 rfl) ?_
  refine wp_stmt_seq [.val (Is (.agg #[.bool false, .slice none 0 0])),
      .put (.inl 4) (.box 39 (Is (.agg #[.bool false, .slice none 0 0]))),
      .val (Is (.int .i64 8))] [.inr 0] [.inl 2, .inr 0, .inr 2, .inr 3] follows S2 rfl (by kernel_rfl) ?_ ?_
  · refine ⟨⟨⟨trivial, ?_⟩, ?_⟩, ?_⟩
    · exact owe_build_int rfl (wants_all rfl) rfl rfl
    · exact owe_set rfl (wants_all rfl) rfl (k := 0) rfl (by kernel_rfl) (opnd_op 0 11 (by kernel_rfl) rfl) (stores_of strct_int shp_z0 shp_z0) rfl
    · exact owe_move rfl (wants_all rfl) (Or.inr rfl) (opnd_const _) rfl
  intro B3 a3 W3 S3
  replace S3 : Sta w 15 [(4, (.box 39 (Is (.agg #[.bool false, .slice none 0 0]))))] [(5, (Is (.int .i64 8))), (10, (Is (.bool true))), (0, (Vv n As k)), (1, (Vv m Bs k'))] B3 a3 W3 := S3
  refine wp_ret ?_
  refine thenR ?_
  exact end_two S3 rfl (res_cell S3 0 4 rfl strct_int shp_z0) (res_tmp S3 0 5 rfl)

set_option maxHeartbeats 400000 in
theorem rdot_y (w : World) (u v : Value) (n k k' : Nat) (As Bs : List Int) (h : Hs w (Vv n As k) u) (h' : Hs w (Vv n Bs k') v) (hn : n ≤ 1048576) (hs : k + k' ≤ 1073741824) :
    Calls Try.prog 20 #[u, v] w (Gives (TWO (ZN (sumZ (List.zipWith (· * ·) As Bs))) (IS (.int .i64 0))) w) := by
  have hA := vv_len h.now
  have hB := vv_len h'.now
  have hd := dl_zip (vv_dl h.now) (vv_dl h'.now)
  refine calls_sta (sl := [(0, (Vv n As k)), (1, (Vv n Bs k'))]) Try.func20 rfl Try.ntmps20 (by simp) (args_cons rfl (h) (args_cons rfl (h') args_nil)) ?_
  intro a0 S0
  refine wp_stmt_seq [.new (.box 39 (Is (.agg #[.bool false, .slice none 0 0]))),
      .val (Is (.int .i64 0))] [.inl 0] [.inl 1, .inr 0, .inr 1] follows S0 rfl (by kernel_rfl) ?_ ?_
  · refine ⟨⟨trivial, ?_⟩, ?_⟩
    · exact owe_new rfl (wants_all rfl) rfl rfl (fun ρ w => alloc_int ρ _ w)
    · exact owe_move rfl (wants_all rfl) (Or.inr rfl) (opnd_const _) rfl
  intro B1 a1 W1 S1
  replace S1 : Sta w 33 [(4, (.box 39 (Is (.agg #[.bool false, .slice none 0 0]))))] [(5, (Is (.int .i64 0))), (0, (Vv n As k)), (1, (Vv n Bs k'))] B1 a1 W1 := S1
  refine wp_seq ?_
  refine wp_stmt_seq [.val (Vv n As k),
      .val (Is (.int .i64 (n : Nat))),
      .val (Vv n Bs k'),
      .val (Is (.int .i64 (n : Nat))),
      .val (Is (.bool false))] [.inr 0] [.inl 4, .inr 0, .inr 1, .inr 2] follows S1 rfl (by kernel_rfl) ?_ ?_
  · refine ⟨⟨⟨⟨⟨trivial, ?_⟩, ?_⟩, ?_⟩, ?_⟩, ?_⟩
    · exact owe_move rfl (wants_all rfl) (Or.inl rfl) (opnd_slot 1 0 rfl (by kernel_rfl)) rfl
    · exact owe_len rfl (wants_all rfl) rfl (opnd_op 0 8 (by kernel_rfl) rfl) ar_len Try.underlying36 rfl
    · exact owe_move rfl (wants_all rfl) (Or.inl rfl) (opnd_slot 2 1 rfl (by kernel_rfl)) rfl
    · exact owe_len rfl (wants_all rfl) rfl (opnd_op 2 10 (by kernel_rfl) rfl) ar_len Try.underlying36 rfl
    · exact owe_bin rfl (wants_all rfl) rfl (opnd_op 1 9 (by kernel_rfl) rfl) (opnd_op 3 11 (by kernel_rfl) rfl) rfl (fun ρ w h1 h2 => by exact run_neq_int_f ρ _ _ _ w _ _ (by omega) h1 h2)
  intro B2 a2 W2 S2
  replace S2 : Sta w 33 [(4, (.box 39 (Is (.agg #[.bool false, .slice none 0 0]))))] [(12, (Is (.bool false))), (5, (Is (.int .i64 0))), (0, (Vv n As k)), (1, (Vv n Bs k'))] B2 a2 W2 := S2
  refine wp_cond_false (S2.bool 0 12 rfl) ?_
  refine wp_skip ?_
  refine thenN ?_
  refine wp_stmt_seq [.val ((ZN (sumZ ((List.zipWith (· * ·) As Bs).take 0))) w.heap.size),
      .new (.box 39 (Is (.agg #[.bool false, .slice none 0 0]))),
      .put (.inr 1) (.box 39 ((ZN (sumZ ((List.zipWith (· * ·) As Bs).take 0))) w.heap.size))] [.inr 0, .inl 1] [.inr 0, .inr 1, .inr 2, .inr 3] follows S2 rfl (by kernel_rfl) ?_ ?_
  · refine ⟨⟨⟨trivial, ?_⟩, ?_⟩, ?_⟩
    · exact owe_call1 rfl (wants_all rfl) rfl (opnd_const _) (fresh_zn _) rfl (fun args w => by go_simp) (fun w u0 h0 => Gives.cast ((g_rof (0) (by decide) (by decide)) w u0 h0) (by rfl))
    · exact owe_new rfl (wants_all rfl) rfl rfl (fun ρ w => alloc_int ρ _ w)
    · exact owe_put 1 rfl (wants_all rfl) rfl (by kernel_rfl) rfl (opnd_op 0 14 (by kernel_rfl) rfl) (stores_of strct_int shp_z0 shp_zn) rfl
  intro B3 a3 W3 S3
  replace S3 : Sta w 33 [(4, (.box 39 (Is (.agg #[.bool false, .slice none 0 0])))), (6, (.box 39 ((ZN (sumZ ((List.zipWith (· * ·) As Bs).take 0))) w.heap.size)))] [(12, (Is (.bool false))), (5, (Is (.int .i64 0))), (0, (Vv n As k)), (1, (Vv n Bs k'))] B3 a3 W3 := S3
  refine wp_seq ?_
  refine wp_stmt_seq [.val (Is (.int .i64 0))] [.inr 0, .inr 1] [.inl 0, .inr 0, .inr 1, .inr 2, .inr 3] follows S3 rfl (by kernel_rfl) ?_ ?_
  · refine ⟨trivial, ?_⟩
    · exact owe_move rfl (wants_all rfl) (Or.inr rfl) (opnd_const _) rfl
  intro B4 a4 W4 S4
  replace S4 : Sta w 33 [(4, (.box 39 (Is (.agg #[.bool false, .slice none 0 0])))), (6, (.box 39 ((ZN (sumZ ((List.zipWith (· * ·) As Bs).take 0))) w.heap.size)))] [(7, (Is (.int .i64 0))), (12, (Is (.bool false))), (5, (Is (.int .i64 0))), (0, (Vv n As k)), (1, (Vv n Bs k'))] B4 a4 W4 := S4
  refine wp_block ?_
  refine wp_loop_ghost (fun (k0 : Nat) a W => (k0 ≤ n) ∧ ∃ Bq, Sta w 33 [(4, (.box 39 (Is (.agg #[.bool false, .slice none 0 0])))), (6, (.box 39 ((ZN (sumZ ((List.zipWith (· * ·) As Bs).take k0))) w.heap.size)))] [(7, (Is (.int .i64 k0))), (0, (Vv n As k)), (1, (Vv n Bs k'))] Bq a W) (fun (k0 : Nat) => n - k0) ?_ 0 ⟨Nat.zero_le _, B4, S4.sub [0, 1] [0, 3, 4]⟩
  rintro k0 a5 W5 ⟨hcond, B5, S5⟩
  by_cases hlt : k0 < n
  · obtain ⟨a, ha⟩ : ∃ a, As[k0]? = some a := ⟨As[k0]'(by omega), List.getElem?_eq_getElem _⟩
    obtain ⟨b, hb⟩ : ∃ b, Bs[k0]? = some b := ⟨Bs[k0]'(by omega), List.getElem?_eq_getElem _⟩
    have hst := sumZ_take (zip_get' (· * ·) ha hb)
    have dS := sumZ_len hd k0
    have dP := hd k0 _ (zip_get' (· * ·) ha hb)
    refine wp_seq ?_
    refine wp_stmt_seq [.val (Is (.int .i64 k0)),
      .val (Vv n As k),
      .val (Is (.int .i64 (n : Nat))),
      .val (Is (.bool true))] [.inr 0, .inr 1] [.inl 3, .inr 0, .inr 1, .inr 2] follows S5 rfl (by kernel_rfl) ?_ ?_
    · refine ⟨⟨⟨⟨trivial, ?_⟩, ?_⟩, ?_⟩, ?_⟩
      · exact owe_move rfl (wants_all rfl) (Or.inl rfl) (opnd_slot 0 7 rfl (by kernel_rfl)) rfl
      · exact owe_move rfl (wants_all rfl) (Or.inl rfl) (opnd_slot 1 0 rfl (by kernel_rfl)) rfl
      · exact owe_len rfl (wants_all rfl) rfl (opnd_op 1 16 (by kernel_rfl) rfl) ar_len Try.underlying36 rfl
      · exact owe_bin rfl (wants_all rfl) rfl (opnd_op 0 15 (by kernel_rfl) rfl) (opnd_op 2 17 (by kernel_rfl) rfl) rfl (fun ρ w h1 h2 => by exact run_lss_int_t ρ _ _ _ w _ _ (by omega) h1 h2)
    intro B6 a6 W6 S6
    replace S6 : Sta w 33 [(4, (.box 39 (Is (.agg #[.bool false, .slice none 0 0])))), (6, (.box 39 ((ZN (sumZ ((List.zipWith (· * ·) As Bs).take k0))) w.heap.size)))] [(18, (Is (.bool true))), (7, (Is (.int .i64 k0))), (0, (Vv n As k)), (1, (Vv n Bs k'))] B6 a6 W6 := S6
    refine wp_cond_true (S6.bool 0 18 rfl) ?_
    refine wp_skip ?_
    refine thenN ?_
    refine wp_seq ?_
    refine wp_block ?_
    refine wp_stmt [.val ((ZN (sumZ ((List.zipWith (· * ·) As Bs).take k0))) w.heap.size),
      .val (Vv n As k),
      .val (Is (.int .i64 k0)),
      .val (AtE 2 (Zv a k)),
      .val (Zv a k),
      .val (Vv n Bs k'),
      .val (Is (.int .i64 k0)),
      .val (AtE 2 (Zv b k')),
      .val (Zv b k'),
      .val ((ZN (a * b)) w.heap.size),
      .val ((ZN (sumZ ((List.zipWith (· * ·) As Bs).take (k0 + 1)))) w.heap.size),
      .put (.inl 6) (.box 39 ((ZN (sumZ ((List.zipWith (· * ·) As Bs).take (k0 + 1)))) w.heap.size))] [.inr 0, .inr 1] [.inr 0, .inr 1, .inr 2, .inr 3] follows S6 rfl (by kernel_rfl) ?_ ?_
    · refine ⟨⟨⟨⟨⟨⟨⟨⟨⟨⟨⟨⟨trivial, ?_⟩, ?_⟩, ?_⟩, ?_⟩, ?_⟩, ?_⟩, ?_⟩, ?_⟩, ?_⟩, ?_⟩, ?_⟩, ?_⟩
      · exact owe_load rfl (wants_all rfl) rfl (k := 1) rfl (by kernel_rfl) (loads_of strct_int shp_zn) rfl
      · exact owe_move rfl (wants_all rfl) (Or.inl rfl) (opnd_slot 2 0 rfl (by kernel_rfl)) rfl
      · exact owe_move rfl (wants_all rfl) (Or.inl rfl) (opnd_slot 1 7 rfl (by kernel_rfl)) rfl
      · exact owe_aindex rfl (wants_all rfl) rfl idx_ints (opnd_op 1 22 (by kernel_rfl) rfl) (opnd_op 2 23 (by kernel_rfl) rfl) (map_get' _ ha) rfl
      · exact owe_aload rfl (wants_all rfl) rfl ldr_int (by decide) (cel_shp (by decide) shp_zv) (opnd_op 3 24 (by kernel_rfl) rfl) rfl
      · exact owe_move rfl (wants_all rfl) (Or.inl rfl) (opnd_slot 3 1 rfl (by kernel_rfl)) rfl
      · exact owe_move rfl (wants_all rfl) (Or.inl rfl) (opnd_slot 1 7 rfl (by kernel_rfl)) rfl
      · exact owe_aindex rfl (wants_all rfl) rfl idx_ints (opnd_op 5 26 (by kernel_rfl) rfl) (opnd_op 6 27 (by kernel_rfl) rfl) (map_get' _ hb) rfl
      · exact owe_aload rfl (wants_all rfl) rfl ldr_int (by decide) (cel_shp (by decide) shp_zv) (opnd_op 7 28 (by kernel_rfl) rfl) rfl
      · exact owe_callh2 rfl (wants_all rfl) rfl (opnd_op 4 25 (by kernel_rfl) rfl) (opnd_op 8 29 (by kernel_rfl) rfl) (fresh_zn _) rfl (fun args w => by go_simp) (fun w u0 u1 h0 h1 => (g_rmul (by omega)) w u0 u1 ((fun _ _ h => h) _ _ h0.now) ((fun _ _ h => h) _ _ h1.now))
      · exact owe_callh2 rfl (wants_all rfl) rfl (opnd_op 0 21 (by kernel_rfl) rfl) (opnd_op 9 30 (by kernel_rfl) rfl) (fresh_zn _) rfl (fun args w => by go_simp) (fun w u0 u1 h0 h1 => Gives.cast ((g_radd (by omega) (by omega)) w u0 u1 ((zn_zv dS) _ _ h0.now) ((zn_zv dP) _ _ h1.now)) (by rw [hst]))
      · exact owe_set rfl (wants_all rfl) rfl (k := 1) rfl (by kernel_rfl) (opnd_op 10 31 (by kernel_rfl) rfl) (stores_of strct_int shp_zn shp_zn) rfl
    intro B7 a7 W7 S7
    replace S7 : Sta w 33 [(4, (.box 39 (Is (.agg #[.bool false, .slice none 0 0])))), (6, (.box 39 ((ZN (sumZ ((List.zipWith (· * ·) As Bs).take (k0 + 1)))) w.heap.size)))] [(18, (Is (.bool true))), (7, (Is (.int .i64 k0))), (0, (Vv n As k)), (1, (Vv n Bs k'))] B7 a7 W7 := S7
    refine inBlkN ?_
    refine thenN ?_
    refine wp_stmt [.val (Is (.int .i64 k0)),
      .val (Is (.int .i64 (k0 + 1 : Nat))),
      .val (Is (.int .i64 (k0 + 1 : Nat)))] [.inr 0, .inr 1] [.inl 2, .inr 0, .inr 2, .inr 3] follows S7 rfl (by kernel_rfl) ?_ ?_
    · refine ⟨⟨⟨trivial, ?_⟩, ?_⟩, ?_⟩
      · exact owe_move rfl (wants_all rfl) (Or.inl rfl) (opnd_slot 1 7 rfl (by kernel_rfl)) rfl
      · exact owe_bin rfl (wants_all rfl) rfl (opnd_op 0 19 (by kernel_rfl) rfl) (opnd_const _) rfl (fun ρ w h1 h2 => by exact run_add_int ρ _ _ _ w _ _ _ ⟨by omega, by omega, by omega⟩ h1 h2)
      · exact owe_move rfl (wants_all rfl) (Or.inr rfl) (opnd_op 1 20 (by kernel_rfl) rfl) rfl
    intro B8 a8 W8 S8
    replace S8 : Sta w 33 [(4, (.box 39 (Is (.agg #[.bool false, .slice none 0 0])))), (6, (.box 39 ((ZN (sumZ ((List.zipWith (· * ·) As Bs).take (k0 + 1)))) w.heap.size)))] [(7, (Is (.int .i64 (k0 + 1 : Nat)))), (18, (Is (.bool true))), (0, (Vv n As k)), (1, (Vv n Bs k'))] B8 a8 W8 := S8
    refine thenN ?_
    exact ⟨k0 + 1, ⟨by omega, B8, S8.sub [0, 1] [0, 2, 3]⟩, by omega⟩
  · have ek : n = k0 := by omega
    have etk : (List.zipWith (· * ·) As Bs).take k0 = List.zipWith (· * ·) As Bs := List.take_of_length_le (by simp; omega)
    rw [← etk]
    refine wp_seq ?_
    refine wp_stmt_seq [.val (Is (.int .i64 k0)),
      .val (Vv n As k),
      .val (Is (.int .i64 (n : Nat))),
      .val (Is (.bool false))] [.inr 0, .inr 1] [.inl 3, .inr 0, .inr 1, .inr 2] follows S5 rfl (by kernel_rfl) ?_ ?_
    · refine ⟨⟨⟨⟨trivial, ?_⟩, ?_⟩, ?_⟩, ?_⟩
      · exact owe_move rfl (wants_all rfl) (Or.inl rfl) (opnd_slot 0 7 rfl (by kernel_rfl)) rfl
      · exact owe_move rfl (wants_all rfl) (Or.inl rfl) (opnd_slot 1 0 rfl (by kernel_rfl)) rfl
      · exact owe_len rfl (wants_all rfl) rfl (opnd_op 1 16 (by kernel_rfl) rfl) ar_len Try.underlying36 rfl
      · exact owe_bin rfl (wants_all rfl) rfl (opnd_op 0 15 (by kernel_rfl) rfl) (opnd_op 2 17 (by kernel_rfl) rfl) rfl (fun ρ w h1 h2 => by exact run_lss_int_f ρ _ _ _ w _ _ (by omega) h1 h2)
    intro B6 a6 W6 S6
    replace S6 : Sta w 33 [(4, (.box 39 (Is (.agg #[.bool false, .slice none 0 0])))), (6, (.box 39 ((ZN (sumZ ((List.zipWith (· * ·) As Bs).take k0))) w.heap.size)))] [(18, (Is (.bool false))), (7, (Is (.int .i64 k0))), (0, (Vv n As k)), (1, (Vv n Bs k'))] B6 a6 W6 := S6
    refine wp_cond_false (S6.bool 0 18 rfl) ?_
    refine wp_exit ?_
    refine thenX ?_
    refine thenX ?_
    refine inBlkE ?_
    refine thenN ?_
    refine wp_stmt_seq [.val ((ZN (sumZ ((List.zipWith (· * ·) As Bs).take k0))) w.heap.size),
      .put (.inl 4) (.box 39 ((ZN (sumZ ((List.zipWith (· * ·) As Bs).take k0))) w.heap.size)),
      .val (Is (.int .i64 0))] [.inr 0, .inr 1] [.inl 2, .inr 0, .inr 1, .inr 2, .inr 3] follows S6 rfl (by kernel_rfl) ?_ ?_
    · refine ⟨⟨⟨trivial, ?_⟩, ?_⟩, ?_⟩
      · exact owe_load rfl (wants_all rfl) rfl (k := 1) rfl (by kernel_rfl) (loads_of strct_int shp_zn) rfl
      · exact owe_set rfl (wants_all rfl) rfl (k := 0) rfl (by kernel_rfl) (opnd_op 0 32 (by kernel_rfl) rfl) (stores_of strct_int shp_z0 shp_zn) rfl
      · exact owe_move rfl (wants_all rfl) (Or.inr rfl) (opnd_const _) rfl
    intro B7 a7 W7 S7
    replace S7 : Sta w 33 [(4, (.box 39 ((ZN (sumZ ((List.zipWith (· * ·) As Bs).take k0))) w.heap.size))), (6, (.box 39 ((ZN (sumZ ((List.zipWith (· * ·) As Bs).take k0))) w.heap.size)))] [(5, (Is (.int .i64 0))), (18, (Is (.bool false))), (7, (Is (.int .i64 k0))), (0, (Vv n As k)), (1, (Vv n Bs k'))] B7 a7 W7 := S7
    refine wp_ret ?_
    exact end_two S7 rfl (res_cell S7 0 4 rfl strct_int shp_zn) (res_tmp S7 0 5 rfl)

set_option maxHeartbeats 400000 in
theorem rdot_n (w : World) (u v : Value) (n m k k' : Nat) (As Bs : List Int) (h : Hs w (Vv n As k) u) (h' : Hs w (Vv m Bs k') v) (hne : n ≠ m) :
    Calls Try.prog 20 #[u, v] w (Gives (TWO (IS (.agg #[.bool false, .slice none 0 0])) (IS (.int .i64 8))) w) := by
  refine calls_sta (sl := [(0, (Vv n As k)), (1, (Vv m Bs k'))]) Try.func20 rfl Try.ntmps20 (by simp) (args_cons rfl (h) (args_cons rfl (h') args_nil)) ?_
  intro a0 S0
  refine wp_stmt_seq [.new (.box 39 (Is (.agg #[.bool false, .slice none 0 0]))),
      .val (Is (.int .i64 0))] [.inl 0] [.inl 1, .inr 0, .inr 1] follows S0 rfl (by kernel_rfl) ?_ ?_
  · refine ⟨⟨trivial, ?_⟩, ?_⟩
    · exact owe_new rfl (wants_all rfl) rfl rfl (fun ρ w => alloc_int ρ _ w)
    · exact owe_move rfl (wants_all rfl) (Or.inr rfl) (opnd_const _) rfl
  intro B1 a1 W1 S1
  replace S1 : Sta w 33 [(4, (.box 39 (Is (.agg #[.bool false, .slice none 0 0]))))] [(5, (Is (.int .i64 0))), (0, (Vv n As k)), (1, (Vv m Bs k'))] B1 a1 W1 := S1
  refine wp_seq ?_
  refine wp_stmt_seq [.val (Vv n As k),
      .val (Is (.int .i64 (n : Nat))),
      .val (Vv m Bs k'),
      .val (Is (.int .i64 (m : Nat))),
      .val (Is (.bool true))] [.inr 0] [.inl 4, .inr 0, .inr 1, .inr 2] follows S1 rfl (by kernel_rfl) ?_ ?_
  · refine ⟨⟨⟨⟨⟨trivial, ?_⟩, ?_⟩, ?_⟩, ?_⟩, ?_⟩
    · exact owe_move rfl (wants_all rfl) (Or.inl rfl) (opnd_slot 1 0 rfl (by kernel_rfl)) rfl
    · exact owe_len rfl (wants_all rfl) rfl (opnd_op 0 8 (by kernel_rfl) rfl) ar_len Try.underlying36 rfl
    · exact owe_move rfl (wants_all rfl) (Or.inl rfl) (opnd_slot 2 1 rfl (by kernel_rfl)) rfl
    · exact owe_len rfl (wants_all rfl) rfl (opnd_op 2 10 (by kernel_rfl) rfl) ar_len Try.underlying36 rfl
    · exact owe_bin rfl (wants_all rfl) rfl (opnd_op 1 9 (by kernel_rfl) rfl) (opnd_op 3 11 (by kernel_rfl) rfl) rfl (fun ρ w h1 h2 => by exact run_neq_int_t ρ _ _ _ w _ _ (by omega) h1 h2)
  intro B2 a2 W2 S2
  replace S2 : Sta w 33 [(4, (.box 39 (Is (.agg #[.bool false, .slice none 0 0]))))] [(12, (Is (.bool true))), (5, (Is (.int .i64 0))), (0, (Vv n As k)), (1, (Vv m Bs k'))] B2 a2 W2 := S2
  refine wp_cond_true (S2.bool 0 12 rfl) ?_
  refine wp_stmt_seq [.val (Is (.agg #[.bool false, .slice none 0 0])),
      .put (.inl 4) (.box 39 (Is (.agg #[.bool false, .slice none 0 0]))),
      .val (Is (.int .i64 8))] [.inr 0] [.inl 2, .inr 0, .inr 2, .inr 3] follows S2 rfl (by kernel_rfl) ?_ ?_
  · refine ⟨⟨⟨trivial, ?_⟩, ?_⟩, ?_⟩
    · exact owe_build_int rfl (wants_all rfl) rfl rfl
    · exact owe_set rfl (wants_all rfl) rfl (k := 0) rfl (by kernel_rfl) (opnd_op 0 13 (by kernel_rfl) rfl) (stores_of strct_int shp_z0 shp_z0) rfl
    · exact owe_move rfl (wants_all rfl) (Or.inr rfl) (opnd_const _) rfl
  intro B3 a3 W3 S3
  replace S3 : Sta w 33 [(4, (.box 39 (Is (.agg #[.bool false, .slice none 0 0]))))] [(5, (Is (.int .i64 8))), (12, (Is (.bool true))), (0, (Vv n As k)), (1, (Vv m Bs k'))] B3 a3 W3 := S3
  refine wp_ret ?_
  refine thenR ?_
  exact end_two S3 rfl (res_cell S3 0 4 rfl strct_int shp_z0) (res_tmp S3 0 5 rfl)

theorem h_dot {n m k k' : Nat} {As Bs : List Int} (hn : n ≤ 1048576) (hs : k + k' ≤ 1073741824) : ∀ w u v, Hs w (Vv n As k) u → Hs w (Vv m Bs k') v → Calls Try.prog 19 #[u, v] w (Gives (TWO (ZN (dotE n m As Bs)) (IS (.int .i64 (errE n m)))) w) := fun w u v h h' => by
  by_cases e : n = m
  · subst e
    simp only [dotE, errE, if_true]
    exact dot_y w u v n k k' As Bs h h' hn hs
  · simp only [dotE, errE, e, if_false]
    exact give_two (dot_n w u v n m k k' As Bs h h' e) zero_zn' (fun _ _ _ h => h)

theorem h_rdot {n m k k' : Nat} {As Bs : List Int} (hn : n ≤ 1048576) (hs : k + k' ≤ 1073741824) : ∀ w u v, Hs w (Vv n As k) u → Hs w (Vv m Bs k') v → Calls Try.prog 20 #[u, v] w (Gives (TWO (ZN (dotE n m As Bs)) (IS (.int .i64 (errE n m)))) w) := fun w u v h h' => by
  by_cases e : n = m
  · subst e
    simp only [dotE, errE, if_true]
    exact rdot_y w u v n k k' As Bs h h' hn hs
  · simp only [dotE, errE, e, if_false]
    exact give_two (rdot_n w u v n m k k' As Bs h h' e) zero_zn' (fun _ _ _ h => h)

set_option maxHeartbeats 400000 in
theorem norm_w (w : World) (u : Value) (n k : Nat) (As : List Int) (h : Hs w (Vv n As k) u) (hn : n ≤ 1048576) (hs : k + k ≤ 1073741824) :
    Calls Try.prog 22 #[u] w (Gives (ZN (sumZ (List.zipWith (· * ·) As As))) w) := by
  refine calls_sta (sl := [(0, (Vv n As k))]) Try.func22 rfl Try.ntmps22 (by simp) (args_cons rfl (h) args_nil) ?_
  intro a0 S0
  refine wp_stmt_seq [.new (.box 39 (Is (.agg #[.bool false, .slice none 0 0])))] [.inl 0] [.inr 0] follows S0 rfl (by kernel_rfl) ?_ ?_
  · refine ⟨trivial, ?_⟩
    · exact owe_new rfl (wants_all rfl) rfl rfl (fun ρ w => alloc_int ρ _ w)
  intro B1 a1 W1 S1
  replace S1 : Sta w 6 [(2, (.box 39 (Is (.agg #[.bool false, .slice none 0 0]))))] [(0, (Vv n As k))] B1 a1 W1 := S1
  refine wp_stmt_seq [.val (Vv n As k),
      .val (Vv n As k),
      .val ((ZN (sumZ (List.zipWith (· * ·) As As))) w.heap.size),
      .put (.inl 2) (.box 39 ((ZN (sumZ (List.zipWith (· * ·) As As))) w.heap.size))] [.inr 0] [] follows S1 rfl (by kernel_rfl) ?_ ?_
  · refine ⟨⟨⟨⟨trivial, ?_⟩, ?_⟩, ?_⟩, ?_⟩
    · exact owe_move rfl (wants_all rfl) (Or.inl rfl) (opnd_slot 0 0 rfl (by kernel_rfl)) rfl
    · exact owe_move rfl (wants_all rfl) (Or.inl rfl) (opnd_slot 0 0 rfl (by kernel_rfl)) rfl
    · exact owe_callh2 rfl (wants_all rfl) rfl (opnd_op 0 3 (by kernel_rfl) rfl) (opnd_op 1 4 (by kernel_rfl) rfl) (fresh_zn _) rfl (fun args w => by go_simp) (fun w u v h h' => dot_w w u v n k k As As h h' hn hs)
    · exact owe_set rfl (wants_all rfl) rfl (k := 0) rfl (by kernel_rfl) (opnd_op 2 5 (by kernel_rfl) rfl) (stores_of strct_int shp_z0 shp_zn) rfl
  intro B2 a2 W2 S2
  replace S2 : Sta w 6 [(2, (.box 39 ((ZN (sumZ (List.zipWith (· * ·) As As))) w.heap.size)))] [] B2 a2 W2 := S2
  refine wp_ret ?_
  exact end_one S2 rfl (res_cell S2 0 2 rfl strct_int shp_zn)

set_option maxHeartbeats 400000 in
theorem rnorm_w (w : World) (u : Value) (n k : Nat) (As : List Int) (h : Hs w (Vv n As k) u) (hn : n ≤ 1048576) (hs : k + k ≤ 1073741824) :
    Calls Try.prog 23 #[u] w (Gives (ZN (sumZ (List.zipWith (· * ·) As As))) w) := by
  refine calls_sta (sl := [(0, (Vv n As k))]) Try.func23 rfl Try.ntmps23 (by simp) (args_cons rfl (h) args_nil) ?_
  intro a0 S0
  refine wp_stmt_seq [.new (.box 39 (Is (.agg #[.bool false, .slice none 0 0])))] [.inl 0] [.inr 0] follows S0 rfl (by kernel_rfl) ?_ ?_
  · refine ⟨trivial, ?_⟩
    · exact owe_new rfl (wants_all rfl) rfl rfl (fun ρ w => alloc_int ρ _ w)
  intro B1 a1 W1 S1
  replace S1 : Sta w 12 [(2, (.box 39 (Is (.agg #[.bool false, .slice none 0 0]))))] [(0, (Vv n As k))] B1 a1 W1 := S1
  refine wp_stmt_seq [.val (Vv n As k),
      .val (Vv n As k),
      .val ((TWO (ZN (sumZ (List.zipWith (· * ·) As As))) (IS (.int .i64 0))) w.heap.size),
      .val ((TWO (ZN (sumZ (List.zipWith (· * ·) As As))) (IS (.int .i64 0))) w.heap.size),
      .val ((ZN (sumZ (List.zipWith (· * ·) As As))) w.heap.size),
      .val (Is (.int .i64 0)),
      .new (.box 39 (Is (.agg #[.bool false, .slice none 0 0]))),
      .put (.inr 6) (.box 39 ((ZN (sumZ (List.zipWith (· * ·) As As))) w.heap.size)),
      .val (Is (.int .i64 0))] [.inr 0, .inl 6] [] follows S1 rfl (by kernel_rfl) ?_ ?_
  · refine ⟨⟨⟨⟨⟨⟨⟨⟨⟨trivial, ?_⟩, ?_⟩, ?_⟩, ?_⟩, ?_⟩, ?_⟩, ?_⟩, ?_⟩, ?_⟩
    · exact owe_move rfl (wants_all rfl) (Or.inl rfl) (opnd_slot 0 0 rfl (by kernel_rfl)) rfl
    · exact owe_move rfl (wants_all rfl) (Or.inl rfl) (opnd_slot 0 0 rfl (by kernel_rfl)) rfl
    · exact owe_callh2 rfl (wants_all rfl) rfl (opnd_op 0 6 (by kernel_rfl) rfl) (opnd_op 1 7 (by kernel_rfl) rfl) (fresh_two (fresh_zn _) (fresh_is _)) rfl (fun args w => by go_simp) (fun w u v h h' => rdot_y w u v n k k As As h h' hn hs)
    · exact owe_move rfl (wants_all rfl) (Or.inl rfl) (opnd_op 2 8 (by kernel_rfl) rfl) rfl
    · exact owe_ext2 rfl (wants_all rfl) rfl (opnd_op 3 5 (by kernel_rfl) rfl) (Or.inl ⟨rfl, rfl⟩) rfl
    · exact owe_ext2 rfl (wants_all rfl) rfl (opnd_op 3 5 (by kernel_rfl) rfl) (Or.inr ⟨rfl, rfl⟩) rfl
    · exact owe_new rfl (wants_all rfl) rfl rfl (fun ρ w => alloc_int ρ _ w)
    · exact owe_put 6 rfl (wants_all rfl) rfl (by kernel_rfl) rfl (opnd_op 4 9 (by kernel_rfl) rfl) (stores_of strct_int shp_z0 shp_zn) rfl
    · exact owe_move rfl (wants_all rfl) (Or.inr rfl) (opnd_op 5 10 (by kernel_rfl) rfl) rfl
  intro B2 a2 W2 S2
  replace S2 : Sta w 12 [(2, (.box 39 (Is (.agg #[.bool false, .slice none 0 0])))), (3, (.box 39 ((ZN (sumZ (List.zipWith (· * ·) As As))) w.heap.size)))] [] B2 a2 W2 := S2
  refine wp_stmt_seq [.val ((ZN (sumZ (List.zipWith (· * ·) As As))) w.heap.size),
      .put (.inl 2) (.box 39 ((ZN (sumZ (List.zipWith (· * ·) As As))) w.heap.size))] [.inr 0, .inr 1] [] follows S2 rfl (by kernel_rfl) ?_ ?_
  · refine ⟨⟨trivial, ?_⟩, ?_⟩
    · exact owe_load rfl (wants_all rfl) rfl (k := 1) rfl (by kernel_rfl) (loads_of strct_int shp_zn) rfl
    · exact owe_set rfl (wants_all rfl) rfl (k := 0) rfl (by kernel_rfl) (opnd_op 0 11 (by kernel_rfl) rfl) (stores_of strct_int shp_z0 shp_zn) rfl
  intro B3 a3 W3 S3
  replace S3 : Sta w 12 [(2, (.box 39 ((ZN (sumZ (List.zipWith (· * ·) As As))) w.heap.size))), (3, (.box 39 ((ZN (sumZ (List.zipWith (· * ·) As As))) w.heap.size)))] [] B3 a3 W3 := S3
  refine wp_ret ?_
  exact end_one S3 rfl (res_cell S3 0 2 rfl strct_int shp_zn)

set_option maxHeartbeats 400000 in
theorem times1_w (w : World) (u v : Value) (k k' : Nat) (K A : Int) (h : Hs w (Zv A k) u) (h' : Hs w (AtE 2 (Zv K k')) v) (hs : k' + k ≤ 1073741824) :
    Calls Try.prog 62 #[u, v] w (Gives (ZN (K * A)) w) := by
  refine calls_sta (sl := [(0, (Zv A k)), (1, (AtE 2 (Zv K k')))]) Try.func62 rfl Try.ntmps62 (by simp) (args_cons rfl (h) (args_cons rfl (h') args_nil)) ?_
  intro a0 S0
  refine wp_stmt_seq [.new (.box 39 (Zv A k)),
      .new (.box 39 (Is (.agg #[.bool false, .slice none 0 0])))] [.inl 0, .inl 1] [.inr 1] follows S0 rfl (by kernel_rfl) ?_ ?_
  · refine ⟨⟨trivial, ?_⟩, ?_⟩
    · exact owe_box rfl (wants_all rfl) rfl (opnd_slot 0 0 rfl (by kernel_rfl)) rfl (fun ρ w h => box_int shp_zv ρ _ _ w h)
    · exact owe_new rfl (wants_all rfl) rfl rfl (fun ρ w => alloc_int ρ _ w)
  intro B1 a1 W1 S1
  replace S1 : Sta w 7 [(2, (.box 39 (Zv A k))), (3, (.box 39 (Is (.agg #[.bool false, .slice none 0 0]))))] [(1, (AtE 2 (Zv K k')))] B1 a1 W1 := S1
  refine wp_stmt_seq [.val (Zv K k'),
      .val (Zv A k),
      .val ((ZN (K * A)) w.heap.size),
      .put (.inl 3) (.box 39 ((ZN (K * A)) w.heap.size))] [.inr 0, .inr 1] [] follows S1 rfl (by kernel_rfl) ?_ ?_
  · refine ⟨⟨⟨⟨trivial, ?_⟩, ?_⟩, ?_⟩, ?_⟩
    · exact owe_aload rfl (wants_all rfl) rfl ldr_int (by decide) (cel_shp (by decide) shp_zv) (opnd_slot 0 1 rfl (by kernel_rfl)) rfl
    · exact owe_load rfl (wants_all rfl) rfl (k := 0) rfl (by kernel_rfl) (loads_of strct_int shp_zv) rfl
    · exact owe_callh2 rfl (wants_all rfl) rfl (opnd_op 0 4 (by kernel_rfl) rfl) (opnd_op 1 5 (by kernel_rfl) rfl) (fresh_zn _) rfl (fun args w => by go_simp) (fun w u0 u1 h0 h1 => (g_zmul (by omega)) w u0 u1 ((fun _ _ h => h) _ _ h0.now) ((fun _ _ h => h) _ _ h1.now))
    · exact owe_set rfl (wants_all rfl) rfl (k := 1) rfl (by kernel_rfl) (opnd_op 2 6 (by kernel_rfl) rfl) (stores_of strct_int shp_z0 shp_zn) rfl
  intro B2 a2 W2 S2
  replace S2 : Sta w 7 [(2, (.box 39 (Zv A k))), (3, (.box 39 ((ZN (K * A)) w.heap.size)))] [] B2 a2 W2 := S2
  refine wp_ret ?_
  exact end_one S2 rfl (res_cell S2 1 3 rfl strct_int shp_zn)

set_option maxHeartbeats 400000 in
theorem times_w (w : World) (u v : Value) (n k k' : Nat) (K : Int) (As : List Int) (h : Hs w (Zv K k') u) (h' : Hs w (Vv n As k) v) (hn : n ≤ 1048576) (hs : k' + k ≤ 1073741824) :
    Calls Try.prog 25 #[u, v] w (Gives (VN n (As.map (fun a => K * a))) w) := by
  refine calls_sta (sl := [(0, (Zv K k')), (1, (Vv n As k))]) Try.func25 rfl Try.ntmps25 (by simp) (args_cons rfl (h) (args_cons rfl (h') args_nil)) ?_
  intro a0 S0
  refine wp_stmt_seq [.new (.box 39 (Zv K k')),
      .val (Is (.slice none 0 0))] [.inl 0] [.inl 1, .inr 1] follows S0 rfl (by kernel_rfl) ?_ ?_
  · refine ⟨⟨trivial, ?_⟩, ?_⟩
    · exact owe_box rfl (wants_all rfl) rfl (opnd_slot 0 0 rfl (by kernel_rfl)) rfl (fun ρ w h => box_int shp_zv ρ _ _ w h)
    · exact owe_move rfl (wants_all rfl) (Or.inr rfl) (opnd_const _) rfl
  intro B1 a1 W1 S1
  replace S1 : Sta w 8 [(2, (.box 39 (Zv K k')))] [(4, (Is (.slice none 0 0))), (1, (Vv n As k))] B1 a1 W1 := S1
  obtain ⟨B2, S2⟩ : ∃ Bq, Sta w 8 [] [(2, (AtE 2 (Zv K k'))), (4, (Is (.slice none 0 0))), (1, (Vv n As k))] Bq a1 W1 := ⟨_, S1.freezeBox 0 rfl (by simp) (cel_shp (by decide) shp_zv)⟩
  obtain ⟨a2, W2, e1, e2⟩ : ∃ a W, a1 = a ∧ W1 = W := ⟨_, _, rfl, rfl⟩
  rw [e1, e2] at S2 ⊢
  clear e1 e2
  refine wp_stmt_seq [.val (Vv n As k),
      .val (Fn1 (As.map (fun z => Zv z k)) (As.map (fun a => ZN (K * a)))),
      .val ((VN n (As.map (fun a => K * a))) w.heap.size),
      .val ((VN n (As.map (fun a => K * a))) w.heap.size)] [] [.inl 3] follows S2 rfl (by kernel_rfl) ?_ ?_
  · refine ⟨⟨⟨⟨trivial, ?_⟩, ?_⟩, ?_⟩, ?_⟩
    · exact owe_move rfl (wants_all rfl) (Or.inl rfl) (opnd_slot 2 1 rfl (by kernel_rfl)) rfl
    · exact owe_mkfn1 rfl (wants_all rfl) rfl (opnd_slot 0 2 rfl (by kernel_rfl)) rfl (fun args w => by go_simp) (fun i φ ψ h1 h2 w u c hu hc => by obtain ⟨a, ha, rfl⟩ := map_get h1; obtain ⟨b, hb, rfl⟩ := map_get h2; rw [ha] at hb; cases hb; exact times1_w w u c k k' K a hu hc hs)
    · exact owe_callh2 rfl (wants_all rfl) rfl (opnd_op 0 5 (by kernel_rfl) rfl) (opnd_op 1 6 (by kernel_rfl) rfl) fresh_vn rfl (fun args w => by go_simp) (h_each (F := fun a => K * a) hn)
    · exact owe_move rfl (wants_all rfl) (Or.inr rfl) (opnd_op 2 7 (by kernel_rfl) rfl) rfl
  intro B3 a3 W3 S3
  replace S3 : Sta w 8 [] [(4, ((VN n (As.map (fun a => K * a))) w.heap.size))] B3 a3 W3 := S3
  refine wp_ret ?_
  exact end_one S3 rfl (res_tmp S3 0 4 rfl)

set_option maxHeartbeats 400000 in
theorem rtimes_w (w : World) (u v : Value) (n k k' : Nat) (K : Int) (As : List Int) (h : Hs w (Zv K k') u) (h' : Hs w (Vv n As k) v) (hn : n ≤ 1048576) (hs : k' + k ≤ 1073741824) :
    Calls Try.prog 27 #[u, v] w (Gives (VN n (As.map (fun a => K * a))) w) := by
  have hA := vv_len h'.now
  refine calls_sta (sl := [(0, (Zv K k')), (1, (Vv n As k))]) Try.func27 rfl Try.ntmps27 (by simp) (args_cons rfl (h) (args_cons rfl (h') args_nil)) ?_
  intro a0 S0
  refine wp_stmt_seq [.new (.box 39 (Zv K k')),
      .val (Is (.slice none 0 0))] [.inl 0] [.inl 1, .inr 1] follows S0 rfl (by kernel_rfl) ?_ ?_
  · refine ⟨⟨trivial, ?_⟩, ?_⟩
    · exact owe_box rfl (wants_all rfl) rfl (opnd_slot 0 0 rfl (by kernel_rfl)) rfl (fun ρ w h => box_int shp_zv ρ _ _ w h)
    · exact owe_move rfl (wants_all rfl) (Or.inr rfl) (opnd_const _) rfl
  intro B1 a1 W1 S1
  replace S1 : Sta w 23 [(2, (.box 39 (Zv K k')))] [(4, (Is (.slice none 0 0))), (1, (Vv n As k))] B1 a1 W1 := S1
  refine wp_stmt_seq [.new (.row 39 2 0 (CE 2 ((((As.map (fun a => K * a)).map ZN).map (· w.heap.size)).take 0)))] [.inr 0, .inl 0] [.inr 0, .inr 1] follows S1 rfl (by kernel_rfl) ?_ ?_
  · refine ⟨trivial, ?_⟩
    · exact owe_nilrow rfl (wants_all rfl) rfl rfl ce_nil
  intro B2 a2 W2 S2
  replace S2 : Sta w 23 [(2, (.box 39 (Zv K k'))), (5, (.row 39 2 0 (CE 2 ((((As.map (fun a => K * a)).map ZN).map (· w.heap.size)).take 0))))] [(4, (Is (.slice none 0 0))), (1, (Vv n As k))] B2 a2 W2 := S2
  refine wp_seq ?_
  refine wp_stmt_seq [.val (Is (.int .i64 0))] [.inr 0, .inr 1] [.inl 0, .inr 0, .inr 1] follows S2 rfl (by kernel_rfl) ?_ ?_
  · refine ⟨trivial, ?_⟩
    · exact owe_move rfl (wants_all rfl) (Or.inr rfl) (opnd_const _) rfl
  intro B3 a3 W3 S3
  replace S3 : Sta w 23 [(2, (.box 39 (Zv K k'))), (5, (.row 39 2 0 (CE 2 ((((As.map (fun a => K * a)).map ZN).map (· w.heap.size)).take 0))))] [(6, (Is (.int .i64 0))), (4, (Is (.slice none 0 0))), (1, (Vv n As k))] B3 a3 W3 := S3
  refine wp_block ?_
  refine wp_loop_ghost (fun (k0 : Nat) a W => (k0 ≤ n) ∧ ∃ Bq, Sta w 23 [(2, (.box 39 (Zv K k'))), (5, (.row 39 2 k0 (CE 2 ((((As.map (fun a => K * a)).map ZN).map (· w.heap.size)).take k0))))] [(6, (Is (.int .i64 k0))), (1, (Vv n As k))] Bq a W) (fun (k0 : Nat) => n - k0) ?_ 0 ⟨Nat.zero_le _, B3, S3.sub [0, 1] [0, 2]⟩
  rintro k0 a4 W4 ⟨hcond, B4, S4⟩
  by_cases hlt : k0 < n
  · obtain ⟨a, ha⟩ : ∃ a, As[k0]? = some a := ⟨As[k0]'(by omega), List.getElem?_eq_getElem _⟩
    have hz := map_get' (fun a => K * a) ha
    have htk : (((As.map (fun a => K * a)).map ZN).map (· w.heap.size)).take (k0 + 1) = (((As.map (fun a => K * a)).map ZN).map (· w.heap.size)).take k0 ++ [ZN (K * a) w.heap.size] := by rw [List.take_add_one, map_get' _ (map_get' _ hz)]; rfl
    refine wp_seq ?_
    refine wp_stmt_seq [.val (Is (.int .i64 k0)),
      .val (Vv n As k),
      .val (Is (.int .i64 (n : Nat))),
      .val (Is (.bool true))] [.inr 0, .inr 1] [.inl 3, .inr 0, .inr 1] follows S4 rfl (by kernel_rfl) ?_ ?_
    · refine ⟨⟨⟨⟨trivial, ?_⟩, ?_⟩, ?_⟩, ?_⟩
      · exact owe_move rfl (wants_all rfl) (Or.inl rfl) (opnd_slot 0 6 rfl (by kernel_rfl)) rfl
      · exact owe_move rfl (wants_all rfl) (Or.inl rfl) (opnd_slot 1 1 rfl (by kernel_rfl)) rfl
      · exact owe_len rfl (wants_all rfl) rfl (opnd_op 1 8 (by kernel_rfl) rfl) ar_len Try.underlying36 rfl
      · exact owe_bin rfl (wants_all rfl) rfl (opnd_op 0 7 (by kernel_rfl) rfl) (opnd_op 2 9 (by kernel_rfl) rfl) rfl (fun ρ w h1 h2 => by exact run_lss_int_t ρ _ _ _ w _ _ (by omega) h1 h2)
    intro B5 a5 W5 S5
    replace S5 : Sta w 23 [(2, (.box 39 (Zv K k'))), (5, (.row 39 2 k0 (CE 2 ((((As.map (fun a => K * a)).map ZN).map (· w.heap.size)).take k0))))] [(10, (Is (.bool true))), (6, (Is (.int .i64 k0))), (1, (Vv n As k))] B5 a5 W5 := S5
    refine wp_cond_true (S5.bool 0 10 rfl) ?_
    refine wp_skip ?_
    refine thenN ?_
    refine wp_seq ?_
    refine wp_block ?_
    refine wp_stmt [.val (Is (a5.eval (.tmp 5))),
      .val (Zv K k'),
      .val (Vv n As k),
      .val (Is (.int .i64 k0)),
      .val (AtE 2 (Zv a k)),
      .val (Zv a k),
      .val ((ZN (K * a)) w.heap.size),
      .val (Sng 39 2 ((ZN (K * a)) w.heap.size) w.heap.size),
      .mov 5 (.row 39 2 (k0 + 1) (CE 2 ((((As.map (fun a => K * a)).map ZN).map (· w.heap.size)).take (k0 + 1)))),
      .ref 8] [.inr 0, .inl 9] [.inr 0, .inr 1, .inr 2] follows S5 rfl (by kernel_rfl) ?_ ?_
    · refine ⟨⟨⟨⟨⟨⟨⟨⟨⟨⟨trivial, ?_⟩, ?_⟩, ?_⟩, ?_⟩, ?_⟩, ?_⟩, ?_⟩, ?_⟩, ?_⟩, ?_⟩
      · exact owe_same rfl (wants_all rfl) (Or.inl rfl) (by kernel_rfl) rfl
      · exact owe_load rfl (wants_all rfl) rfl (k := 0) rfl (by kernel_rfl) (loads_of strct_int shp_zv) rfl
      · exact owe_move rfl (wants_all rfl) (Or.inl rfl) (opnd_slot 2 1 rfl (by kernel_rfl)) rfl
      · exact owe_move rfl (wants_all rfl) (Or.inl rfl) (opnd_slot 1 6 rfl (by kernel_rfl)) rfl
      · exact owe_aindex rfl (wants_all rfl) rfl idx_ints (opnd_op 2 15 (by kernel_rfl) rfl) (opnd_op 3 16 (by kernel_rfl) rfl) (map_get' _ ha) rfl
      · exact owe_aload rfl (wants_all rfl) rfl ldr_int (by decide) (cel_shp (by decide) shp_zv) (opnd_op 4 17 (by kernel_rfl) rfl) rfl
      · exact owe_callh2 rfl (wants_all rfl) rfl (opnd_op 1 14 (by kernel_rfl) rfl) (opnd_op 5 18 (by kernel_rfl) rfl) (fresh_zn _) rfl (fun args w => by go_simp) (fun w u0 u1 h0 h1 => (g_rmul (by omega)) w u0 u1 ((fun _ _ h => h) _ _ h0.now) ((fun _ _ h => h) _ _ h1.now))
      · exact owe_b1 rfl (wants_all rfl) rfl bld_int (opnd_op 6 19 (by kernel_rfl) rfl) (cel_shp (by decide) shp_zn) rfl
      · exact owe_append rfl (wants_all rfl) rfl (opnd_op 0 13 (by kernel_rfl) rfl) (k := 1) rfl (by kernel_rfl) ((opnd_op 7 20 (by kernel_rfl) rfl).imp b1_src) einf_int Try.underlying36 (by decide) ⟨by unfold maxLen; omega, by omega⟩ rfl (fun xs ys w h1 h2 => by rw [htk]; exact ce_append xs ys w h1 h2)
      · exact owe_ref 8 rfl (wants_all rfl) (Or.inr rfl) (by kernel_rfl) rfl rfl
    intro B6 a6 W6 S6
    replace S6 : Sta w 23 [(2, (.box 39 (Zv K k'))), (5, (.row 39 2 (k0 + 1) (CE 2 ((((As.map (fun a => K * a)).map ZN).map (· w.heap.size)).take (k0 + 1)))))] [(10, (Is (.bool true))), (6, (Is (.int .i64 k0))), (1, (Vv n As k))] B6 a6 W6 := S6
    refine inBlkN ?_
    refine thenN ?_
    refine wp_stmt [.val (Is (.int .i64 k0)),
      .val (Is (.int .i64 (k0 + 1 : Nat))),
      .val (Is (.int .i64 (k0 + 1 : Nat)))] [.inr 0, .inr 1] [.inl 2, .inr 0, .inr 2] follows S6 rfl (by kernel_rfl) ?_ ?_
    · refine ⟨⟨⟨trivial, ?_⟩, ?_⟩, ?_⟩
      · exact owe_move rfl (wants_all rfl) (Or.inl rfl) (opnd_slot 1 6 rfl (by kernel_rfl)) rfl
      · exact owe_bin rfl (wants_all rfl) rfl (opnd_op 0 11 (by kernel_rfl) rfl) (opnd_const _) rfl (fun ρ w h1 h2 => by exact run_add_int ρ _ _ _ w _ _ _ ⟨by omega, by omega, by omega⟩ h1 h2)
      · exact owe_move rfl (wants_all rfl) (Or.inr rfl) (opnd_op 1 12 (by kernel_rfl) rfl) rfl
    intro B7 a7 W7 S7
    replace S7 : Sta w 23 [(2, (.box 39 (Zv K k'))), (5, (.row 39 2 (k0 + 1) (CE 2 ((((As.map (fun a => K * a)).map ZN).map (· w.heap.size)).take (k0 + 1)))))] [(6, (Is (.int .i64 (k0 + 1 : Nat)))), (10, (Is (.bool true))), (1, (Vv n As k))] B7 a7 W7 := S7
    refine thenN ?_
    exact ⟨k0 + 1, ⟨by omega, B7, S7.sub [0, 1] [0, 2]⟩, by omega⟩
  · have ek : n = k0 := by omega
    have hend : (((As.map (fun a => K * a)).map ZN).map (· w.heap.size)).take k0 = ((As.map (fun a => K * a)).map ZN).map (· w.heap.size) := List.take_of_length_le (by simp; omega)
    refine wp_seq ?_
    refine wp_stmt_seq [.val (Is (.int .i64 k0)),
      .val (Vv n As k),
      .val (Is (.int .i64 (n : Nat))),
      .val (Is (.bool false))] [.inr 0, .inr 1] [.inl 3, .inr 0, .inr 1] follows S4 rfl (by kernel_rfl) ?_ ?_
    · refine ⟨⟨⟨⟨trivial, ?_⟩, ?_⟩, ?_⟩, ?_⟩
      · exact owe_move rfl (wants_all rfl) (Or.inl rfl) (opnd_slot 0 6 rfl (by kernel_rfl)) rfl
      · exact owe_move rfl (wants_all rfl) (Or.inl rfl) (opnd_slot 1 1 rfl (by kernel_rfl)) rfl
      · exact owe_len rfl (wants_all rfl) rfl (opnd_op 1 8 (by kernel_rfl) rfl) ar_len Try.underlying36 rfl
      · exact owe_bin rfl (wants_all rfl) rfl (opnd_op 0 7 (by kernel_rfl) rfl) (opnd_op 2 9 (by kernel_rfl) rfl) rfl (fun ρ w h1 h2 => by exact run_lss_int_f ρ _ _ _ w _ _ (by omega) h1 h2)
    intro B5 a5 W5 S5
    replace S5 : Sta w 23 [(2, (.box 39 (Zv K k'))), (5, (.row 39 2 k0 (CE 2 ((((As.map (fun a => K * a)).map ZN).map (· w.heap.size)).take k0))))] [(10, (Is (.bool false))), (6, (Is (.int .i64 k0))), (1, (Vv n As k))] B5 a5 W5 := S5
    refine wp_cond_false (S5.bool 0 10 rfl) ?_
    refine wp_exit ?_
    refine thenX ?_
    refine thenX ?_
    refine inBlkE ?_
    refine thenN ?_
    obtain ⟨B6, S6⟩ : ∃ Bq, Sta w 23 [(2, (.box 39 (Zv K k')))] [(5, ((VN n (As.map (fun a => K * a))) w.heap.size)), (10, (Is (.bool false))), (6, (Is (.int .i64 k0))), (1, (Vv n As k))] Bq a5 W5 := ⟨_, S5.freeze 1 rfl (by simp) (fun v w' xs ho hc => by rw [hend] at hc; rw [ek]; exact row_lf (by decide) v w' xs ho hc)⟩
    obtain ⟨a6, W6, e1, e2⟩ : ∃ a W, a5 = a ∧ W5 = W := ⟨_, _, rfl, rfl⟩
    rw [e1, e2] at S6 ⊢
    clear e1 e2
    refine wp_stmt_seq [.val ((VN n (As.map (fun a => K * a))) w.heap.size),
      .val ((VN n (As.map (fun a => K * a))) w.heap.size)] [.inr 0] [.inl 1, .inr 0, .inr 1, .inr 2, .inr 3] follows S6 rfl (by kernel_rfl) ?_ ?_
    · refine ⟨⟨trivial, ?_⟩, ?_⟩
      · exact owe_move rfl (wants_all rfl) (Or.inl rfl) (opnd_slot 0 5 rfl (by kernel_rfl)) rfl
      · exact owe_move rfl (wants_all rfl) (Or.inr rfl) (opnd_op 0 22 (by kernel_rfl) rfl) rfl
    intro B7 a7 W7 S7
    replace S7 : Sta w 23 [(2, (.box 39 (Zv K k')))] [(4, ((VN n (As.map (fun a => K * a))) w.heap.size)), (5, ((VN n (As.map (fun a => K * a))) w.heap.size)), (10, (Is (.bool false))), (6, (Is (.int .i64 k0))), (1, (Vv n As k))] B7 a7 W7 := S7
    refine wp_ret ?_
    exact end_one S7 rfl (res_tmp S7 0 4 rfl)

set_option maxHeartbeats 400000 in
theorem plusj_y (w : World) (u v f : Value) (n k k' : Nat) (As Bs : List Int) (h : Hs w (Vv n As k) u) (h' : Hs w (Vv n Bs k') v) (hf : Hs w (Fn2 (As.map (fun z => Zv z k)) (Bs.map (fun z => Zv z k')) (List.zipWith (fun a b => ZN ((· + ·) a b)) As Bs)) f) (hn : n ≤ 1048576) :
    Calls Try.prog 64 #[u, v, f] w (Gives (TWO (VN n (List.zipWith (· + ·) As Bs)) (IS (.int .i64 0))) w) := by
  refine calls_sta (sl := [(0, (Vv n As k)), (1, (Vv n Bs k')), (2, (Fn2 (As.map (fun z => Zv z k)) (Bs.map (fun z => Zv z k')) (List.zipWith (fun a b => ZN ((· + ·) a b)) As Bs)))]) Try.func64 rfl Try.ntmps64 (by simp) (args_cons rfl (h) (args_cons rfl (h') (args_cons rfl (hf) args_nil))) ?_
  intro a0 S0
  refine wp_stmt_seq [.val (Is (.slice none 0 0)),
      .val (Is (.int .i64 0))] [] [.inl 0, .inl 1, .inr 0, .inr 1, .inr 2] follows S0 rfl (by kernel_rfl) ?_ ?_
  · refine ⟨⟨trivial, ?_⟩, ?_⟩
    · exact owe_move rfl (wants_all rfl) (Or.inr rfl) (opnd_const _) rfl
    · exact owe_move rfl (wants_all rfl) (Or.inr rfl) (opnd_const _) rfl
  intro B1 a1 W1 S1
  replace S1 : Sta w 17 [] [(6, (Is (.slice none 0 0))), (7, (Is (.int .i64 0))), (0, (Vv n As k)), (1, (Vv n Bs k')), (2, (Fn2 (As.map (fun z => Zv z k)) (Bs.map (fun z => Zv z k')) (List.zipWith (fun a b => ZN ((· + ·) a b)) As Bs)))] B1 a1 W1 := S1
  refine wp_seq ?_
  refine wp_stmt_seq [.val (Vv n As k),
      .val (Is (.int .i64 (n : Nat))),
      .val (Vv n Bs k'),
      .val (Is (.int .i64 (n : Nat))),
      .val (Is (.bool false))] [] [.inl 4, .inr 0, .inr 1, .inr 2, .inr 3, .inr 4] follows S1 rfl (by kernel_rfl) ?_ ?_
  · refine ⟨⟨⟨⟨⟨trivial, ?_⟩, ?_⟩, ?_⟩, ?_⟩, ?_⟩
    · exact owe_move rfl (wants_all rfl) (Or.inl rfl) (opnd_slot 2 0 rfl (by kernel_rfl)) rfl
    · exact owe_len rfl (wants_all rfl) rfl (opnd_op 0 8 (by kernel_rfl) rfl) ar_len Try.underlying36 rfl
    · exact owe_move rfl (wants_all rfl) (Or.inl rfl) (opnd_slot 3 1 rfl (by kernel_rfl)) rfl
    · exact owe_len rfl (wants_all rfl) rfl (opnd_op 2 10 (by kernel_rfl) rfl) ar_len Try.underlying36 rfl
    · exact owe_bin rfl (wants_all rfl) rfl (opnd_op 1 9 (by kernel_rfl) rfl) (opnd_op 3 11 (by kernel_rfl) rfl) rfl (fun ρ w h1 h2 => by exact run_neq_int_f ρ _ _ _ w _ _ (by omega) h1 h2)
  intro B2 a2 W2 S2
  replace S2 : Sta w 17 [] [(12, (Is (.bool false))), (6, (Is (.slice none 0 0))), (7, (Is (.int .i64 0))), (0, (Vv n As k)), (1, (Vv n Bs k')), (2, (Fn2 (As.map (fun z => Zv z k)) (Bs.map (fun z => Zv z k')) (List.zipWith (fun a b => ZN ((· + ·) a b)) As Bs)))] B2 a2 W2 := S2
  refine wp_cond_false (S2.bool 0 12 rfl) ?_
  refine wp_skip ?_
  refine thenN ?_
  refine wp_stmt_seq [.val (Vv n As k),
      .val (Vv n Bs k'),
      .val (Fn2 (As.map (fun z => Zv z k)) (Bs.map (fun z => Zv z k')) (List.zipWith (fun a b => ZN ((· + ·) a b)) As Bs)),
      .val ((VN n (List.zipWith (· + ·) As Bs)) w.heap.size),
      .val ((VN n (List.zipWith (· + ·) As Bs)) w.heap.size),
      .val (Is (.int .i64 0))] [] [.inl 4, .inl 5, .inr 0, .inr 3, .inr 4] follows S2 rfl (by kernel_rfl) ?_ ?_
  · refine ⟨⟨⟨⟨⟨⟨trivial, ?_⟩, ?_⟩, ?_⟩, ?_⟩, ?_⟩, ?_⟩
    · exact owe_move rfl (wants_all rfl) (Or.inl rfl) (opnd_slot 3 0 rfl (by kernel_rfl)) rfl
    · exact owe_move rfl (wants_all rfl) (Or.inl rfl) (opnd_slot 4 1 rfl (by kernel_rfl)) rfl
    · exact owe_move rfl (wants_all rfl) (Or.inl rfl) (opnd_slot 5 2 rfl (by kernel_rfl)) rfl
    · exact owe_callh3 rfl (wants_all rfl) rfl (opnd_op 0 13 (by kernel_rfl) rfl) (opnd_op 1 14 (by kernel_rfl) rfl) (opnd_op 2 15 (by kernel_rfl) rfl) fresh_vn rfl (fun args w => by go_simp) (h_pairs (F := (· + ·)) hn)
    · exact owe_move rfl (wants_all rfl) (Or.inr rfl) (opnd_op 3 16 (by kernel_rfl) rfl) rfl
    · exact owe_move rfl (wants_all rfl) (Or.inr rfl) (opnd_const _) rfl
  intro B3 a3 W3 S3
  replace S3 : Sta w 17 [] [(6, ((VN n (List.zipWith (· + ·) As Bs)) w.heap.size)), (7, (Is (.int .i64 0))), (12, (Is (.bool false))), (0, (Vv n As k)), (1, (Vv n Bs k'))] B3 a3 W3 := S3
  refine wp_ret ?_
  exact end_two S3 rfl (res_tmp S3 0 6 rfl) (res_tmp S3 1 7 rfl)

set_option maxHeartbeats 400000 in
theorem plusj_n (w : World) (u v f : Value) (n m k k' : Nat) (As Bs : List Int) (h : Hs w (Vv n As k) u) (h' : Hs w (Vv m Bs k') v) (hf : Hs w (Fn2 (As.map (fun z => Zv z k)) (Bs.map (fun z => Zv z k')) (List.zipWith (fun a b => ZN ((· + ·) a b)) As Bs)) f) (hne : n ≠ m) :
    Calls Try.prog 64 #[u, v, f] w (Gives (TWO (IS (.slice none 0 0)) (IS (.int .i64 8))) w) := by
  refine calls_sta (sl := [(0, (Vv n As k)), (1, (Vv m Bs k')), (2, (Fn2 (As.map (fun z => Zv z k)) (Bs.map (fun z => Zv z k')) (List.zipWith (fun a b => ZN ((· + ·) a b)) As Bs)))]) Try.func64 rfl Try.ntmps64 (by simp) (args_cons rfl (h) (args_cons rfl (h') (args_cons rfl (hf) args_nil))) ?_
  intro a0 S0
  refine wp_stmt_seq [.val (Is (.slice none 0 0)),
      .val (Is (.int .i64 0))] [] [.inl 0, .inl 1, .inr 0, .inr 1, .inr 2] follows S0 rfl (by kernel_rfl) ?_ ?_
  · refine ⟨⟨trivial, ?_⟩, ?_⟩
    · exact owe_move rfl (wants_all rfl) (Or.inr rfl) (opnd_const _) rfl
    · exact owe_move rfl (wants_all rfl) (Or.inr rfl) (opnd_const _) rfl
  intro B1 a1 W1 S1
  replace S1 : Sta w 17 [] [(6, (Is (.slice none 0 0))), (7, (Is (.int .i64 0))), (0, (Vv n As k)), (1, (Vv m Bs k')), (2, (Fn2 (As.map (fun z => Zv z k)) (Bs.map (fun z => Zv z k')) (List.zipWith (fun a b => ZN ((· + ·) a b)) As Bs)))] B1 a1 W1 := S1
  refine wp_seq ?_
  refine wp_stmt_seq [.val (Vv n As k),
      .val (Is (.int .i64 (n : Nat))),
      .val (Vv m Bs k'),
      .val (Is (.int .i64 (m : Nat))),
      .val (Is (.bool true))] [] [.inl 4, .inr 0, .inr 1, .inr 2, .inr 3, .inr 4] follows S1 rfl (by kernel_rfl) ?_ ?_
  · refine ⟨⟨⟨⟨⟨trivial, ?_⟩, ?_⟩, ?_⟩, ?_⟩, ?_⟩
    · exact owe_move rfl (wants_all rfl) (Or.inl rfl) (opnd_slot 2 0 rfl (by kernel_rfl)) rfl
    · exact owe_len rfl (wants_all rfl) rfl (opnd_op 0 8 (by kernel_rfl) rfl) ar_len Try.underlying36 rfl
    · exact owe_move rfl (wants_all rfl) (Or.inl rfl) (opnd_slot 3 1 rfl (by kernel_rfl)) rfl
    · exact owe_len rfl (wants_all rfl) rfl (opnd_op 2 10 (by kernel_rfl) rfl) ar_len Try.underlying36 rfl
    · exact owe_bin rfl (wants_all rfl) rfl (opnd_op 1 9 (by kernel_rfl) rfl) (opnd_op 3 11 (by kernel_rfl) rfl) rfl (fun ρ w h1 h2 => by exact run_neq_int_t ρ _ _ _ w _ _ (by omega) h1 h2)
  intro B2 a2 W2 S2
  replace S2 : Sta w 17 [] [(12, (Is (.bool true))), (6, (Is (.slice none 0 0))), (7, (Is (.int .i64 0))), (0, (Vv n As k)), (1, (Vv m Bs k')), (2, (Fn2 (As.map (fun z => Zv z k)) (Bs.map (fun z => Zv z k')) (List.zipWith (fun a b => ZN ((· + ·) a b)) As Bs)))] B2 a2 W2 := S2
  refine wp_cond_true (S2.bool 0 12 rfl) ?_
  refine wp_stmt_seq [.val (Is (.slice none 0 0)),
      .val (Is (.int .i64 8))] [] [.inl 0, .inl 1, .inr 0, .inr 3, .inr 4, .inr 5] follows S2 rfl (by kernel_rfl) ?_ ?_
  · refine ⟨⟨trivial, ?_⟩, ?_⟩
    · exact owe_move rfl (wants_all rfl) (Or.inr rfl) (opnd_const _) rfl
    · exact owe_move rfl (wants_all rfl) (Or.inr rfl) (opnd_const _) rfl
  intro B3 a3 W3 S3
  replace S3 : Sta w 17 [] [(6, (Is (.slice none 0 0))), (7, (Is (.int .i64 8))), (12, (Is (.bool true))), (0, (Vv n As k)), (1, (Vv m Bs k')), (2, (Fn2 (As.map (fun z => Zv z k)) (Bs.map (fun z => Zv z k')) (List.zipWith (fun a b => ZN ((· + ·) a b)) As Bs)))] B3 a3 W3 := S3
  refine wp_ret ?_
  refine thenR ?_
  exact end_two S3 rfl (res_tmp S3 0 6 rfl) (res_tmp S3 1 7 rfl)

theorem h_plusj {n m k k' : Nat} {As Bs : List Int} (hn : n ≤ 1048576) : ∀ w u v f, Hs w (Vv n As k) u → Hs w (Vv m Bs k') v → Hs w (Fn2 (As.map (fun z => Zv z k)) (Bs.map (fun z => Zv z k')) (List.zipWith (fun a b => ZN ((· + ·) a b)) As Bs)) f → Calls Try.prog 64 #[u, v, f] w (Gives (TWO (VN (lenE n m) (zipE (· + ·) n m As Bs)) (IS (.int .i64 (errE n m)))) w) := fun w u v f h h' hf => by
  by_cases e : n = m
  · subst e
    simp only [lenE, zipE, errE, if_true]
    exact plusj_y w u v f n k k' As Bs h h' hf hn
  · simp only [lenE, zipE, errE, e, if_false]
    exact give_two (plusj_n w u v f n m k k' As Bs h h' hf e) nil_vn' (fun _ _ _ h => h)

set_option maxHeartbeats 400000 in
theorem plus_w (w : World) (u v : Value) (n m k k' : Nat) (As Bs : List Int) (h : Hs w (Vv n As k) u) (h' : Hs w (Vv m Bs k') v) (hn : n ≤ 1048576) (hs : k ≤ 1073741824) (hs' : k' ≤ 1073741824) :
    Calls Try.prog 28 #[u, v] w (Gives (TWO (VN (lenE n m) (zipE (· + ·) n m As Bs)) (IS (.int .i64 (errE n m)))) w) := by
  refine calls_sta (sl := [(0, (Vv n As k)), (1, (Vv m Bs k'))]) Try.func28 rfl Try.ntmps28 (by simp) (args_cons rfl (h) (args_cons rfl (h') args_nil)) ?_
  intro a0 S0
  refine wp_stmt_seq [.val (Is (.slice none 0 0)),
      .val (Is (.int .i64 0))] [] [.inl 0, .inl 1, .inr 0, .inr 1] follows S0 rfl (by kernel_rfl) ?_ ?_
  · refine ⟨⟨trivial, ?_⟩, ?_⟩
    · exact owe_move rfl (wants_all rfl) (Or.inr rfl) (opnd_const _) rfl
    · exact owe_move rfl (wants_all rfl) (Or.inr rfl) (opnd_const _) rfl
  intro B1 a1 W1 S1
  replace S1 : Sta w 11 [] [(4, (Is (.slice none 0 0))), (5, (Is (.int .i64 0))), (0, (Vv n As k)), (1, (Vv m Bs k'))] B1 a1 W1 := S1
  refine wp_stmt_seq [.val (Vv n As k),
      .val (Vv m Bs k'),
      .val ((TWO (VN (lenE n m) (zipE (· + ·) n m As Bs)) (IS (.int .i64 (errE n m)))) w.heap.size),
      .val ((VN (lenE n m) (zipE (· + ·) n m As Bs)) w.heap.size),
      .val (Is (.int .i64 (errE n m))),
      .val ((VN (lenE n m) (zipE (· + ·) n m As Bs)) w.heap.size),
      .val (Is (.int .i64 (errE n m)))] [] [.inl 5, .inl 6] follows S1 rfl (by kernel_rfl) ?_ ?_
  · refine ⟨⟨⟨⟨⟨⟨⟨trivial, ?_⟩, ?_⟩, ?_⟩, ?_⟩, ?_⟩, ?_⟩, ?_⟩
    · exact owe_move rfl (wants_all rfl) (Or.inl rfl) (opnd_slot 2 0 rfl (by kernel_rfl)) rfl
    · exact owe_move rfl (wants_all rfl) (Or.inl rfl) (opnd_slot 3 1 rfl (by kernel_rfl)) rfl
    · exact owe_callh3 rfl (wants_all rfl) rfl (opnd_op 0 6 (by kernel_rfl) rfl) (opnd_op 1 7 (by kernel_rfl) rfl) ((opnd_func _).imp (fn2_zip (G := fun a b => ZN ((· + ·) a b)) (fun args w => by go_simp) (fun a b => g_zadd (by omega) (by omega)))) (fresh_two fresh_vn (fresh_is _)) rfl (fun args w => by go_simp) (h_plusj hn)
    · exact owe_ext2 rfl (wants_all rfl) rfl (opnd_op 2 8 (by kernel_rfl) rfl) (Or.inl ⟨rfl, rfl⟩) rfl
    · exact owe_ext2 rfl (wants_all rfl) rfl (opnd_op 2 8 (by kernel_rfl) rfl) (Or.inr ⟨rfl, rfl⟩) rfl
    · exact owe_move rfl (wants_all rfl) (Or.inr rfl) (opnd_op 3 9 (by kernel_rfl) rfl) rfl
    · exact owe_move rfl (wants_all rfl) (Or.inr rfl) (opnd_op 4 10 (by kernel_rfl) rfl) rfl
  intro B2 a2 W2 S2
  replace S2 : Sta w 11 [] [(4, ((VN (lenE n m) (zipE (· + ·) n m As Bs)) w.heap.size)), (5, (Is (.int .i64 (errE n m))))] B2 a2 W2 := S2
  refine wp_ret ?_
  exact end_two S2 rfl (res_tmp S2 0 4 rfl) (res_tmp S2 1 5 rfl)

set_option maxHeartbeats 400000 in
theorem minusj_y (w : World) (u v f : Value) (n k k' : Nat) (As Bs : List Int) (h : Hs w (Vv n As k) u) (h' : Hs w (Vv n Bs k') v) (hf : Hs w (Fn2 (As.map (fun z => Zv z k)) (Bs.map (fun z => Zv z k')) (List.zipWith (fun a b => ZN ((· - ·) a b)) As Bs)) f) (hn : n ≤ 1048576) :
    Calls Try.prog 64 #[u, v, f] w (Gives (TWO (VN n (List.zipWith (· - ·) As Bs)) (IS (.int .i64 0))) w) := by
  refine calls_sta (sl := [(0, (Vv n As k)), (1, (Vv n Bs k')), (2, (Fn2 (As.map (fun z => Zv z k)) (Bs.map (fun z => Zv z k')) (List.zipWith (fun a b => ZN ((· - ·) a b)) As Bs)))]) Try.func64 rfl Try.ntmps64 (by simp) (args_cons rfl (h) (args_cons rfl (h') (args_cons rfl (hf) args_nil))) ?_
  intro a0 S0
  refine wp_stmt_seq [.val (Is (.slice none 0 0)),
      .val (Is (.int .i64 0))] [] [.inl 0, .inl 1, .inr 0, .inr 1, .inr 2] follows S0 rfl (by kernel_rfl) ?_ ?_
  · refine ⟨⟨trivial, ?_⟩, ?_⟩
    · exact owe_move rfl (wants_all rfl) (Or.inr rfl) (opnd_const _) rfl
    · exact owe_move rfl (wants_all rfl) (Or.inr rfl) (opnd_const _) rfl
  intro B1 a1 W1 S1
  replace S1 : Sta w 17 [] [(6, (Is (.slice none 0 0))), (7, (Is (.int .i64 0))), (0, (Vv n As k)), (1, (Vv n Bs k')), (2, (Fn2 (As.map (fun z => Zv z k)) (Bs.map (fun z => Zv z k')) (List.zipWith (fun a b => ZN ((· - ·) a b)) As Bs)))] B1 a1 W1 := S1
  refine wp_seq ?_
  refine wp_stmt_seq [.val (Vv n As k),
      .val (Is (.int .i64 (n : Nat))),
      .val (Vv n Bs k'),
      .val (Is (.int .i64 (n : Nat))),
      .val (Is (.bool false))] [] [.inl 4, .inr 0, .inr 1, .inr 2, .inr 3, .inr 4] follows S1 rfl (by kernel_rfl) ?_ ?_
  · refine ⟨⟨⟨⟨⟨trivial, ?_⟩, ?_⟩, ?_⟩, ?_⟩, ?_⟩
    · exact owe_move rfl (wants_all rfl) (Or.inl rfl) (opnd_slot 2 0 rfl (by kernel_rfl)) rfl
    · exact owe_len rfl (wants_all rfl) rfl (opnd_op 0 8 (by kernel_rfl) rfl) ar_len Try.underlying36 rfl
    · exact owe_move rfl (wants_all rfl) (Or.inl rfl) (opnd_slot 3 1 rfl (by kernel_rfl)) rfl
    · exact owe_len rfl (wants_all rfl) rfl (opnd_op 2 10 (by kernel_rfl) rfl) ar_len Try.underlying36 rfl
    · exact owe_bin rfl (wants_all rfl) rfl (opnd_op 1 9 (by kernel_rfl) rfl) (opnd_op 3 11 (by kernel_rfl) rfl) rfl (fun ρ w h1 h2 => by exact run_neq_int_f ρ _ _ _ w _ _ (by omega) h1 h2)
  intro B2 a2 W2 S2
  replace S2 : Sta w 17 [] [(12, (Is (.bool false))), (6, (Is (.slice none 0 0))), (7, (Is (.int .i64 0))), (0, (Vv n As k)), (1, (Vv n Bs k')), (2, (Fn2 (As.map (fun z => Zv z k)) (Bs.map (fun z => Zv z k')) (List.zipWith (fun a b => ZN ((· - ·) a b)) As Bs)))] B2 a2 W2 := S2
  refine wp_cond_false (S2.bool 0 12 rfl) ?_
  refine wp_skip ?_
  refine thenN ?_
  refine wp_stmt_seq [.val (Vv n As k),
      .val (Vv n Bs k'),
      .val (Fn2 (As.map (fun z => Zv z k)) (Bs.map (fun z => Zv z k')) (List.zipWith (fun a b => ZN ((· - ·) a b)) As Bs)),
      .val ((VN n (List.zipWith (· - ·) As Bs)) w.heap.size),
      .val ((VN n (List.zipWith (· - ·) As Bs)) w.heap.size),
      .val (Is (.int .i64 0))] [] [.inl 4, .inl 5, .inr 0, .inr 3, .inr 4] follows S2 rfl (by kernel_rfl) ?_ ?_
  · refine ⟨⟨⟨⟨⟨⟨trivial, ?_⟩, ?_⟩, ?_⟩, ?_⟩, ?_⟩, ?_⟩
    · exact owe_move rfl (wants_all rfl) (Or.inl rfl) (opnd_slot 3 0 rfl (by kernel_rfl)) rfl
    · exact owe_move rfl (wants_all rfl) (Or.inl rfl) (opnd_slot 4 1 rfl (by kernel_rfl)) rfl
    · exact owe_move rfl (wants_all rfl) (Or.inl rfl) (opnd_slot 5 2 rfl (by kernel_rfl)) rfl
    · exact owe_callh3 rfl (wants_all rfl) rfl (opnd_op 0 13 (by kernel_rfl) rfl) (opnd_op 1 14 (by kernel_rfl) rfl) (opnd_op 2 15 (by kernel_rfl) rfl) fresh_vn rfl (fun args w => by go_simp) (h_pairs (F := (· - ·)) hn)
    · exact owe_move rfl (wants_all rfl) (Or.inr rfl) (opnd_op 3 16 (by kernel_rfl) rfl) rfl
    · exact owe_move rfl (wants_all rfl) (Or.inr rfl) (opnd_const _) rfl
  intro B3 a3 W3 S3
  replace S3 : Sta w 17 [] [(6, ((VN n (List.zipWith (· - ·) As Bs)) w.heap.size)), (7, (Is (.int .i64 0))), (12, (Is (.bool false))), (0, (Vv n As k)), (1, (Vv n Bs k'))] B3 a3 W3 := S3
  refine wp_ret ?_
  exact end_two S3 rfl (res_tmp S3 0 6 rfl) (res_tmp S3 1 7 rfl)

set_option maxHeartbeats 400000 in
theorem minusj_n (w : World) (u v f : Value) (n m k k' : Nat) (As Bs : List Int) (h : Hs w (Vv n As k) u) (h' : Hs w (Vv m Bs k') v) (hf : Hs w (Fn2 (As.map (fun z => Zv z k)) (Bs.map (fun z => Zv z k')) (List.zipWith (fun a b => ZN ((· - ·) a b)) As Bs)) f) (hne : n ≠ m) :
    Calls Try.prog 64 #[u, v, f] w (Gives (TWO (IS (.slice none 0 0)) (IS (.int .i64 8))) w) := by
  refine calls_sta (sl := [(0, (Vv n As k)), (1, (Vv m Bs k')), (2, (Fn2 (As.map (fun z => Zv z k)) (Bs.map (fun z => Zv z k')) (List.zipWith (fun a b => ZN ((· - ·) a b)) As Bs)))]) Try.func64 rfl Try.ntmps64 (by simp) (args_cons rfl (h) (args_cons rfl (h') (args_cons rfl (hf) args_nil))) ?_
  intro a0 S0
  refine wp_stmt_seq [.val (Is (.slice none 0 0)),
      .val (Is (.int .i64 0))] [] [.inl 0, .inl 1, .inr 0, .inr 1, .inr 2] follows S0 rfl (by kernel_rfl) ?_ ?_
  · refine ⟨⟨trivial, ?_⟩, ?_⟩
    · exact owe_move rfl (wants_all rfl) (Or.inr rfl) (opnd_const _) rfl
    · exact owe_move rfl (wants_all rfl) (Or.inr rfl) (opnd_const _) rfl
  intro B1 a1 W1 S1
  replace S1 : Sta w 17 [] [(6, (Is (.slice none 0 0))), (7, (Is (.int .i64 0))), (0, (Vv n As k)), (1, (Vv m Bs k')), (2, (Fn2 (As.map (fun z => Zv z k)) (Bs.map (fun z => Zv z k')) (List.zipWith (fun a b => ZN ((· - ·) a b)) As Bs)))] B1 a1 W1 := S1
  refine wp_seq ?_
  refine wp_stmt_seq [.val (Vv n As k),
      .val (Is (.int .i64 (n : Nat))),
      .val (Vv m Bs k'),
      .val (Is (.int .i64 (m : Nat))),
      .val (Is (.bool true))] [] [.inl 4, .inr 0, .inr 1, .inr 2, .inr 3, .inr 4] follows S1 rfl (by kernel_rfl) ?_ ?_
  · refine ⟨⟨⟨⟨⟨trivial, ?_⟩, ?_⟩, ?_⟩, ?_⟩, ?_⟩
    · exact owe_move rfl (wants_all rfl) (Or.inl rfl) (opnd_slot 2 0 rfl (by kernel_rfl)) rfl
    · exact owe_len rfl (wants_all rfl) rfl (opnd_op 0 8 (by kernel_rfl) rfl) ar_len Try.underlying36 rfl
    · exact owe_move rfl (wants_all rfl) (Or.inl rfl) (opnd_slot 3 1 rfl (by kernel_rfl)) rfl
    · exact owe_len rfl (wants_all rfl) rfl (opnd_op 2 10 (by kernel_rfl) rfl) ar_len Try.underlying36 rfl
    · exact owe_bin rfl (wants_all rfl) rfl (opnd_op 1 9 (by kernel_rfl) rfl) (opnd_op 3 11 (by kernel_rfl) rfl) rfl (fun ρ w h1 h2 => by exact run_neq_int_t ρ _ _ _ w _ _ (by omega) h1 h2)
  intro B2 a2 W2 S2
  replace S2 : Sta w 17 [] [(12, (Is (.bool true))), (6, (Is (.slice none 0 0))), (7, (Is (.int .i64 0))), (0, (Vv n As k)), (1, (Vv m Bs k')), (2, (Fn2 (As.map (fun z => Zv z k)) (Bs.map (fun z => Zv z k')) (List.zipWith (fun a b => ZN ((· - ·) a b)) As Bs)))] B2 a2 W2 := S2
  refine wp_cond_true (S2.bool 0 12 rfl) ?_
  refine wp_stmt_seq [.val (Is (.slice none 0 0)),
      .val (Is (.int .i64 8))] [] [.inl 0, .inl 1, .inr 0, .inr 3, .inr 4, .inr 5] follows S2 rfl (by kernel_rfl) ?_ ?_
  · refine ⟨⟨trivial, ?_⟩, ?_⟩
    · exact owe_move rfl (wants_all rfl) (Or.inr rfl) (opnd_const _) rfl
    · exact owe_move rfl (wants_all rfl) (Or.inr rfl) (opnd_const _) rfl
  intro B3 a3 W3 S3
  replace S3 : Sta w 17 [] [(6, (Is (.slice none 0 0))), (7, (Is (.int .i64 8))), (12, (Is (.bool true))), (0, (Vv n As k)), (1, (Vv m Bs k')), (2, (Fn2 (As.map (fun z => Zv z k)) (Bs.map (fun z => Zv z k')) (List.zipWith (fun a b => ZN ((· - ·) a b)) As Bs)))] B3 a3 W3 := S3
  refine wp_ret ?_
  refine thenR ?_
  exact end_two S3 rfl (res_tmp S3 0 6 rfl) (res_tmp S3 1 7 rfl)

theorem h_minusj {n m k k' : Nat} {As Bs : List Int} (hn : n ≤ 1048576) : ∀ w u v f, Hs w (Vv n As k) u → Hs w (Vv m Bs k') v → Hs w (Fn2 (As.map (fun z => Zv z k)) (Bs.map (fun z => Zv z k')) (List.zipWith (fun a b => ZN ((· - ·) a b)) As Bs)) f → Calls Try.prog 64 #[u, v, f] w (Gives (TWO (VN (lenE n m) (zipE (· - ·) n m As Bs)) (IS (.int .i64 (errE n m)))) w) := fun w u v f h h' hf => by
  by_cases e : n = m
  · subst e
    simp only [lenE, zipE, errE, if_true]
    exact minusj_y w u v f n k k' As Bs h h' hf hn
  · simp only [lenE, zipE, errE, e, if_false]
    exact give_two (minusj_n w u v f n m k k' As Bs h h' hf e) nil_vn' (fun _ _ _ h => h)

set_option maxHeartbeats 400000 in
theorem minus_w (w : World) (u v : Value) (n m k k' : Nat) (As Bs : List Int) (h : Hs w (Vv n As k) u) (h' : Hs w (Vv m Bs k') v) (hn : n ≤ 1048576) (hs : k ≤ 1073741824) (hs' : k' ≤ 1073741824) :
    Calls Try.prog 30 #[u, v] w (Gives (TWO (VN (lenE n m) (zipE (· - ·) n m As Bs)) (IS (.int .i64 (errE n m)))) w) := by
  refine calls_sta (sl := [(0, (Vv n As k)), (1, (Vv m Bs k'))]) Try.func30 rfl Try.ntmps30 (by simp) (args_cons rfl (h) (args_cons rfl (h') args_nil)) ?_
  intro a0 S0
  refine wp_stmt_seq [.val (Is (.slice none 0 0)),
      .val (Is (.int .i64 0))] [] [.inl 0, .inl 1, .inr 0, .inr 1] follows S0 rfl (by kernel_rfl) ?_ ?_
  · refine ⟨⟨trivial, ?_⟩, ?_⟩
    · exact owe_move rfl (wants_all rfl) (Or.inr rfl) (opnd_const _) rfl
    · exact owe_move rfl (wants_all rfl) (Or.inr rfl) (opnd_const _) rfl
  intro B1 a1 W1 S1
  replace S1 : Sta w 11 [] [(4, (Is (.slice none 0 0))), (5, (Is (.int .i64 0))), (0, (Vv n As k)), (1, (Vv m Bs k'))] B1 a1 W1 := S1
  refine wp_stmt_seq [.val (Vv n As k),
      .val (Vv m Bs k'),
      .val ((TWO (VN (lenE n m) (zipE (· - ·) n m As Bs)) (IS (.int .i64 (errE n m)))) w.heap.size),
      .val ((VN (lenE n m) (zipE (· - ·) n m As Bs)) w.heap.size),
      .val (Is (.int .i64 (errE n m))),
      .val ((VN (lenE n m) (zipE (· - ·) n m As Bs)) w.heap.size),
      .val (Is (.int .i64 (errE n m)))] [] [.inl 5, .inl 6] follows S1 rfl (by kernel_rfl) ?_ ?_
  · refine ⟨⟨⟨⟨⟨⟨⟨trivial, ?_⟩, ?_⟩, ?_⟩, ?_⟩, ?_⟩, ?_⟩, ?_⟩
    · exact owe_move rfl (wants_all rfl) (Or.inl rfl) (opnd_slot 2 0 rfl (by kernel_rfl)) rfl
    · exact owe_move rfl (wants_all rfl) (Or.inl rfl) (opnd_slot 3 1 rfl (by kernel_rfl)) rfl
    · exact owe_callh3 rfl (wants_all rfl) rfl (opnd_op 0 6 (by kernel_rfl) rfl) (opnd_op 1 7 (by kernel_rfl) rfl) ((opnd_func _).imp (fn2_zip (G := fun a b => ZN ((· - ·) a b)) (fun args w => by go_simp) (fun a b => g_zsub (by omega) (by omega)))) (fresh_two fresh_vn (fresh_is _)) rfl (fun args w => by go_simp) (h_minusj hn)
    · exact owe_ext2 rfl (wants_all rfl) rfl (opnd_op 2 8 (by kernel_rfl) rfl) (Or.inl ⟨rfl, rfl⟩) rfl
    · exact owe_ext2 rfl (wants_all rfl) rfl (opnd_op 2 8 (by kernel_rfl) rfl) (Or.inr ⟨rfl, rfl⟩) rfl
    · exact owe_move rfl (wants_all rfl) (Or.inr rfl) (opnd_op 3 9 (by kernel_rfl) rfl) rfl
    · exact owe_move rfl (wants_all rfl) (Or.inr rfl) (opnd_op 4 10 (by kernel_rfl) rfl) rfl
  intro B2 a2 W2 S2
  replace S2 : Sta w 11 [] [(4, ((VN (lenE n m) (zipE (· - ·) n m As Bs)) w.heap.size)), (5, (Is (.int .i64 (errE n m))))] B2 a2 W2 := S2
  refine wp_ret ?_
  exact end_two S2 rfl (res_tmp S2 0 4 rfl) (res_tmp S2 1 5 rfl)

set_option maxHeartbeats 400000 in
theorem rplus_y (w : World) (u v : Value) (n k k' : Nat) (As Bs : List Int) (h : Hs w (Vv n As k) u) (h' : Hs w (Vv n Bs k') v) (hn : n ≤ 1048576) (hs : k ≤ 1073741824) (hs' : k' ≤ 1073741824) :
    Calls Try.prog 29 #[u, v] w (Gives (TWO (VN n (List.zipWith (· + ·) As Bs)) (IS (.int .i64 0))) w) := by
  have hA := vv_len h.now
  have hB := vv_len h'.now
  refine calls_sta (sl := [(0, (Vv n As k)), (1, (Vv n Bs k'))]) Try.func29 rfl Try.ntmps29 (by simp) (args_cons rfl (h) (args_cons rfl (h') args_nil)) ?_
  intro a0 S0
  refine wp_stmt_seq [.val (Is (.slice none 0 0)),
      .val (Is (.int .i64 0))] [] [.inl 0, .inl 1, .inr 0, .inr 1] follows S0 rfl (by kernel_rfl) ?_ ?_
  · refine ⟨⟨trivial, ?_⟩, ?_⟩
    · exact owe_move rfl (wants_all rfl) (Or.inr rfl) (opnd_const _) rfl
    · exact owe_move rfl (wants_all rfl) (Or.inr rfl) (opnd_const _) rfl
  intro B1 a1 W1 S1
  replace S1 : Sta w 32 [] [(4, (Is (.slice none 0 0))), (5, (Is (.int .i64 0))), (0, (Vv n As k)), (1, (Vv n Bs k'))] B1 a1 W1 := S1
  refine wp_seq ?_
  refine wp_stmt_seq [.val (Vv n As k),
      .val (Is (.int .i64 (n : Nat))),
      .val (Vv n Bs k'),
      .val (Is (.int .i64 (n : Nat))),
      .val (Is (.bool false))] [] [.inl 4, .inr 0, .inr 1, .inr 2, .inr 3] follows S1 rfl (by kernel_rfl) ?_ ?_
  · refine ⟨⟨⟨⟨⟨trivial, ?_⟩, ?_⟩, ?_⟩, ?_⟩, ?_⟩
    · exact owe_move rfl (wants_all rfl) (Or.inl rfl) (opnd_slot 2 0 rfl (by kernel_rfl)) rfl
    · exact owe_len rfl (wants_all rfl) rfl (opnd_op 0 8 (by kernel_rfl) rfl) ar_len Try.underlying36 rfl
    · exact owe_move rfl (wants_all rfl) (Or.inl rfl) (opnd_slot 3 1 rfl (by kernel_rfl)) rfl
    · exact owe_len rfl (wants_all rfl) rfl (opnd_op 2 10 (by kernel_rfl) rfl) ar_len Try.underlying36 rfl
    · exact owe_bin rfl (wants_all rfl) rfl (opnd_op 1 9 (by kernel_rfl) rfl) (opnd_op 3 11 (by kernel_rfl) rfl) rfl (fun ρ w h1 h2 => by exact run_neq_int_f ρ _ _ _ w _ _ (by omega) h1 h2)
  intro B2 a2 W2 S2
  replace S2 : Sta w 32 [] [(12, (Is (.bool false))), (4, (Is (.slice none 0 0))), (5, (Is (.int .i64 0))), (0, (Vv n As k)), (1, (Vv n Bs k'))] B2 a2 W2 := S2
  refine wp_cond_false (S2.bool 0 12 rfl) ?_
  refine wp_skip ?_
  refine thenN ?_
  refine wp_stmt_seq [.new (.row 39 2 0 (CE 2 ((((List.zipWith (· + ·) As Bs).map ZN).map (· w.heap.size)).take 0)))] [.inl 0] [.inr 0, .inr 1, .inr 2, .inr 3, .inr 4] follows S2 rfl (by kernel_rfl) ?_ ?_
  · refine ⟨trivial, ?_⟩
    · exact owe_nilrow rfl (wants_all rfl) rfl rfl ce_nil
  intro B3 a3 W3 S3
  replace S3 : Sta w 32 [(6, (.row 39 2 0 (CE 2 ((((List.zipWith (· + ·) As Bs).map ZN).map (· w.heap.size)).take 0))))] [(12, (Is (.bool false))), (4, (Is (.slice none 0 0))), (5, (Is (.int .i64 0))), (0, (Vv n As k)), (1, (Vv n Bs k'))] B3 a3 W3 := S3
  refine wp_seq ?_
  refine wp_stmt_seq [.val (Is (.int .i64 0))] [.inr 0] [.inl 0, .inr 0, .inr 1, .inr 2, .inr 3, .inr 4] follows S3 rfl (by kernel_rfl) ?_ ?_
  · refine ⟨trivial, ?_⟩
    · exact owe_move rfl (wants_all rfl) (Or.inr rfl) (opnd_const _) rfl
  intro B4 a4 W4 S4
  replace S4 : Sta w 32 [(6, (.row 39 2 0 (CE 2 ((((List.zipWith (· + ·) As Bs).map ZN).map (· w.heap.size)).take 0))))] [(7, (Is (.int .i64 0))), (12, (Is (.bool false))), (4, (Is (.slice none 0 0))), (5, (Is (.int .i64 0))), (0, (Vv n As k)), (1, (Vv n Bs k'))] B4 a4 W4 := S4
  refine wp_block ?_
  refine wp_loop_ghost (fun (k0 : Nat) a W => (k0 ≤ n) ∧ ∃ Bq, Sta w 32 [(6, (.row 39 2 k0 (CE 2 ((((List.zipWith (· + ·) As Bs).map ZN).map (· w.heap.size)).take k0))))] [(7, (Is (.int .i64 k0))), (0, (Vv n As k)), (1, (Vv n Bs k'))] Bq a W) (fun (k0 : Nat) => n - k0) ?_ 0 ⟨Nat.zero_le _, B4, S4.sub [0] [0, 4, 5]⟩
  rintro k0 a5 W5 ⟨hcond, B5, S5⟩
  by_cases hlt : k0 < n
  · obtain ⟨a, ha⟩ : ∃ a, As[k0]? = some a := ⟨As[k0]'(by omega), List.getElem?_eq_getElem _⟩
    obtain ⟨b, hb⟩ : ∃ b, Bs[k0]? = some b := ⟨Bs[k0]'(by omega), List.getElem?_eq_getElem _⟩
    have hz := zip_get' (· + ·) ha hb
    have htk : (((List.zipWith (· + ·) As Bs).map ZN).map (· w.heap.size)).take (k0 + 1) = (((List.zipWith (· + ·) As Bs).map ZN).map (· w.heap.size)).take k0 ++ [ZN (a + b) w.heap.size] := by rw [List.take_add_one, map_get' _ (map_get' _ hz)]; rfl
    refine wp_seq ?_
    refine wp_stmt_seq [.val (Is (.int .i64 k0)),
      .val (Vv n As k),
      .val (Is (.int .i64 (n : Nat))),
      .val (Is (.bool true))] [.inr 0] [.inl 3, .inr 0, .inr 1, .inr 2] follows S5 rfl (by kernel_rfl) ?_ ?_
    · refine ⟨⟨⟨⟨trivial, ?_⟩, ?_⟩, ?_⟩, ?_⟩
      · exact owe_move rfl (wants_all rfl) (Or.inl rfl) (opnd_slot 0 7 rfl (by kernel_rfl)) rfl
      · exact owe_move rfl (wants_all rfl) (Or.inl rfl) (opnd_slot 1 0 rfl (by kernel_rfl)) rfl
      · exact owe_len rfl (wants_all rfl) rfl (opnd_op 1 14 (by kernel_rfl) rfl) ar_len Try.underlying36 rfl
      · exact owe_bin rfl (wants_all rfl) rfl (opnd_op 0 13 (by kernel_rfl) rfl) (opnd_op 2 15 (by kernel_rfl) rfl) rfl (fun ρ w h1 h2 => by exact run_lss_int_t ρ _ _ _ w _ _ (by omega) h1 h2)
    intro B6 a6 W6 S6
    replace S6 : Sta w 32 [(6, (.row 39 2 k0 (CE 2 ((((List.zipWith (· + ·) As Bs).map ZN).map (· w.heap.size)).take k0))))] [(16, (Is (.bool true))), (7, (Is (.int .i64 k0))), (0, (Vv n As k)), (1, (Vv n Bs k'))] B6 a6 W6 := S6
    refine wp_cond_true (S6.bool 0 16 rfl) ?_
    refine wp_skip ?_
    refine thenN ?_
    refine wp_seq ?_
    refine wp_block ?_
    refine wp_stmt [.val (Is (a6.eval (.tmp 6))),
      .val (Vv n As k),
      .val (Is (.int .i64 k0)),
      .val (AtE 2 (Zv a k)),
      .val (Zv a k),
      .val (Vv n Bs k'),
      .val (Is (.int .i64 k0)),
      .val (AtE 2 (Zv b k')),
      .val (Zv b k'),
      .val ((ZN (a + b)) w.heap.size),
      .val (Sng 39 2 ((ZN (a + b)) w.heap.size) w.heap.size),
      .mov 6 (.row 39 2 (k0 + 1) (CE 2 ((((List.zipWith (· + ·) As Bs).map ZN).map (· w.heap.size)).take (k0 + 1)))),
      .ref 11] [.inl 12] [.inr 0, .inr 1, .inr 2, .inr 3] follows S6 rfl (by kernel_rfl) ?_ ?_
    · refine ⟨⟨⟨⟨⟨⟨⟨⟨⟨⟨⟨⟨⟨trivial, ?_⟩, ?_⟩, ?_⟩, ?_⟩, ?_⟩, ?_⟩, ?_⟩, ?_⟩, ?_⟩, ?_⟩, ?_⟩, ?_⟩, ?_⟩
      · exact owe_same rfl (wants_all rfl) (Or.inl rfl) (by kernel_rfl) rfl
      · exact owe_move rfl (wants_all rfl) (Or.inl rfl) (opnd_slot 2 0 rfl (by kernel_rfl)) rfl
      · exact owe_move rfl (wants_all rfl) (Or.inl rfl) (opnd_slot 1 7 rfl (by kernel_rfl)) rfl
      · exact owe_aindex rfl (wants_all rfl) rfl idx_ints (opnd_op 1 20 (by kernel_rfl) rfl) (opnd_op 2 21 (by kernel_rfl) rfl) (map_get' _ ha) rfl
      · exact owe_aload rfl (wants_all rfl) rfl ldr_int (by decide) (cel_shp (by decide) shp_zv) (opnd_op 3 22 (by kernel_rfl) rfl) rfl
      · exact owe_move rfl (wants_all rfl) (Or.inl rfl) (opnd_slot 3 1 rfl (by kernel_rfl)) rfl
      · exact owe_move rfl (wants_all rfl) (Or.inl rfl) (opnd_slot 1 7 rfl (by kernel_rfl)) rfl
      · exact owe_aindex rfl (wants_all rfl) rfl idx_ints (opnd_op 5 24 (by kernel_rfl) rfl) (opnd_op 6 25 (by kernel_rfl) rfl) (map_get' _ hb) rfl
      · exact owe_aload rfl (wants_all rfl) rfl ldr_int (by decide) (cel_shp (by decide) shp_zv) (opnd_op 7 26 (by kernel_rfl) rfl) rfl
      · exact owe_callh2 rfl (wants_all rfl) rfl (opnd_op 4 23 (by kernel_rfl) rfl) (opnd_op 8 27 (by kernel_rfl) rfl) (fresh_zn _) rfl (fun args w => by go_simp) (fun w u0 u1 h0 h1 => (g_radd (by omega) (by omega)) w u0 u1 ((fun _ _ h => h) _ _ h0.now) ((fun _ _ h => h) _ _ h1.now))
      · exact owe_b1 rfl (wants_all rfl) rfl bld_int (opnd_op 9 28 (by kernel_rfl) rfl) (cel_shp (by decide) shp_zn) rfl
      · exact owe_append rfl (wants_all rfl) rfl (opnd_op 0 19 (by kernel_rfl) rfl) (k := 0) rfl (by kernel_rfl) ((opnd_op 10 29 (by kernel_rfl) rfl).imp b1_src) einf_int Try.underlying36 (by decide) ⟨by unfold maxLen; omega, by omega⟩ rfl (fun xs ys w h1 h2 => by rw [htk]; exact ce_append xs ys w h1 h2)
      · exact owe_ref 11 rfl (wants_all rfl) (Or.inr rfl) (by kernel_rfl) rfl rfl
    intro B7 a7 W7 S7
    replace S7 : Sta w 32 [(6, (.row 39 2 (k0 + 1) (CE 2 ((((List.zipWith (· + ·) As Bs).map ZN).map (· w.heap.size)).take (k0 + 1)))))] [(16, (Is (.bool true))), (7, (Is (.int .i64 k0))), (0, (Vv n As k)), (1, (Vv n Bs k'))] B7 a7 W7 := S7
    refine inBlkN ?_
    refine thenN ?_
    refine wp_stmt [.val (Is (.int .i64 k0)),
      .val (Is (.int .i64 (k0 + 1 : Nat))),
      .val (Is (.int .i64 (k0 + 1 : Nat)))] [.inr 0] [.inl 2, .inr 0, .inr 2, .inr 3] follows S7 rfl (by kernel_rfl) ?_ ?_
    · refine ⟨⟨⟨trivial, ?_⟩, ?_⟩, ?_⟩
      · exact owe_move rfl (wants_all rfl) (Or.inl rfl) (opnd_slot 1 7 rfl (by kernel_rfl)) rfl
      · exact owe_bin rfl (wants_all rfl) rfl (opnd_op 0 17 (by kernel_rfl) rfl) (opnd_const _) rfl (fun ρ w h1 h2 => by exact run_add_int ρ _ _ _ w _ _ _ ⟨by omega, by omega, by omega⟩ h1 h2)
      · exact owe_move rfl (wants_all rfl) (Or.inr rfl) (opnd_op 1 18 (by kernel_rfl) rfl) rfl
    intro B8 a8 W8 S8
    replace S8 : Sta w 32 [(6, (.row 39 2 (k0 + 1) (CE 2 ((((List.zipWith (· + ·) As Bs).map ZN).map (· w.heap.size)).take (k0 + 1)))))] [(7, (Is (.int .i64 (k0 + 1 : Nat)))), (16, (Is (.bool true))), (0, (Vv n As k)), (1, (Vv n Bs k'))] B8 a8 W8 := S8
    refine thenN ?_
    exact ⟨k0 + 1, ⟨by omega, B8, S8.sub [0] [0, 2, 3]⟩, by omega⟩
  · have ek : n = k0 := by omega
    have hend : (((List.zipWith (· + ·) As Bs).map ZN).map (· w.heap.size)).take k0 = ((List.zipWith (· + ·) As Bs).map ZN).map (· w.heap.size) := List.take_of_length_le (by simp; omega)
    refine wp_seq ?_
    refine wp_stmt_seq [.val (Is (.int .i64 k0)),
      .val (Vv n As k),
      .val (Is (.int .i64 (n : Nat))),
      .val (Is (.bool false))] [.inr 0] [.inl 3, .inr 0, .inr 1, .inr 2] follows S5 rfl (by kernel_rfl) ?_ ?_
    · refine ⟨⟨⟨⟨trivial, ?_⟩, ?_⟩, ?_⟩, ?_⟩
      · exact owe_move rfl (wants_all rfl) (Or.inl rfl) (opnd_slot 0 7 rfl (by kernel_rfl)) rfl
      · exact owe_move rfl (wants_all rfl) (Or.inl rfl) (opnd_slot 1 0 rfl (by kernel_rfl)) rfl
      · exact owe_len rfl (wants_all rfl) rfl (opnd_op 1 14 (by kernel_rfl) rfl) ar_len Try.underlying36 rfl
      · exact owe_bin rfl (wants_all rfl) rfl (opnd_op 0 13 (by kernel_rfl) rfl) (opnd_op 2 15 (by kernel_rfl) rfl) rfl (fun ρ w h1 h2 => by exact run_lss_int_f ρ _ _ _ w _ _ (by omega) h1 h2)
    intro B6 a6 W6 S6
    replace S6 : Sta w 32 [(6, (.row 39 2 k0 (CE 2 ((((List.zipWith (· + ·) As Bs).map ZN).map (· w.heap.size)).take k0))))] [(16, (Is (.bool false))), (7, (Is (.int .i64 k0))), (0, (Vv n As k)), (1, (Vv n Bs k'))] B6 a6 W6 := S6
    refine wp_cond_false (S6.bool 0 16 rfl) ?_
    refine wp_exit ?_
    refine thenX ?_
    refine thenX ?_
    refine inBlkE ?_
    refine thenN ?_
    obtain ⟨B7, S7⟩ : ∃ Bq, Sta w 32 [] [(6, ((VN n (List.zipWith (· + ·) As Bs)) w.heap.size)), (16, (Is (.bool false))), (7, (Is (.int .i64 k0))), (0, (Vv n As k)), (1, (Vv n Bs k'))] Bq a6 W6 := ⟨_, S6.freeze 0 rfl (by simp) (fun v w' xs ho hc => by rw [hend] at hc; rw [ek]; exact row_lf (by decide) v w' xs ho hc)⟩
    obtain ⟨a7, W7, e1, e2⟩ : ∃ a W, a6 = a ∧ W6 = W := ⟨_, _, rfl, rfl⟩
    rw [e1, e2] at S7 ⊢
    clear e1 e2
    refine wp_stmt_seq [.val ((VN n (List.zipWith (· + ·) As Bs)) w.heap.size),
      .val ((VN n (List.zipWith (· + ·) As Bs)) w.heap.size),
      .val (Is (.int .i64 0))] [] [.inl 1, .inl 2, .inr 0, .inr 1, .inr 2, .inr 3, .inr 4] follows S7 rfl (by kernel_rfl) ?_ ?_
    · refine ⟨⟨⟨trivial, ?_⟩, ?_⟩, ?_⟩
      · exact owe_move rfl (wants_all rfl) (Or.inl rfl) (opnd_slot 0 6 rfl (by kernel_rfl)) rfl
      · exact owe_move rfl (wants_all rfl) (Or.inr rfl) (opnd_op 0 31 (by kernel_rfl) rfl) rfl
      · exact owe_move rfl (wants_all rfl) (Or.inr rfl) (opnd_const _) rfl
    intro B8 a8 W8 S8
    replace S8 : Sta w 32 [] [(4, ((VN n (List.zipWith (· + ·) As Bs)) w.heap.size)), (5, (Is (.int .i64 0))), (6, ((VN n (List.zipWith (· + ·) As Bs)) w.heap.size)), (16, (Is (.bool false))), (7, (Is (.int .i64 k0))), (0, (Vv n As k)), (1, (Vv n Bs k'))] B8 a8 W8 := S8
    refine wp_ret ?_
    exact end_two S8 rfl (res_tmp S8 0 4 rfl) (res_tmp S8 1 5 rfl)

set_option maxHeartbeats 400000 in
theorem rplus_n (w : World) (u v : Value) (n m k k' : Nat) (As Bs : List Int) (h : Hs w (Vv n As k) u) (h' : Hs w (Vv m Bs k') v) (hne : n ≠ m) :
    Calls Try.prog 29 #[u, v] w (Gives (TWO (IS (.slice none 0 0)) (IS (.int .i64 8))) w) := by
  refine calls_sta (sl := [(0, (Vv n As k)), (1, (Vv m Bs k'))]) Try.func29 rfl Try.ntmps29 (by simp) (args_cons rfl (h) (args_cons rfl (h') args_nil)) ?_
  intro a0 S0
  refine wp_stmt_seq [.val (Is (.slice none 0 0)),
      .val (Is (.int .i64 0))] [] [.inl 0, .inl 1, .inr 0, .inr 1] follows S0 rfl (by kernel_rfl) ?_ ?_
  · refine ⟨⟨trivial, ?_⟩, ?_⟩
    · exact owe_move rfl (wants_all rfl) (Or.inr rfl) (opnd_const _) rfl
    · exact owe_move rfl (wants_all rfl) (Or.inr rfl) (opnd_const _) rfl
  intro B1 a1 W1 S1
  replace S1 : Sta w 32 [] [(4, (Is (.slice none 0 0))), (5, (Is (.int .i64 0))), (0, (Vv n As k)), (1, (Vv m Bs k'))] B1 a1 W1 := S1
  refine wp_seq ?_
  refine wp_stmt_seq [.val (Vv n As k),
      .val (Is (.int .i64 (n : Nat))),
      .val (Vv m Bs k'),
      .val (Is (.int .i64 (m : Nat))),
      .val (Is (.bool true))] [] [.inl 4, .inr 0, .inr 1, .inr 2, .inr 3] follows S1 rfl (by kernel_rfl) ?_ ?_
  · refine ⟨⟨⟨⟨⟨trivial, ?_⟩, ?_⟩, ?_⟩, ?_⟩, ?_⟩
    · exact owe_move rfl (wants_all rfl) (Or.inl rfl) (opnd_slot 2 0 rfl (by kernel_rfl)) rfl
    · exact owe_len rfl (wants_all rfl) rfl (opnd_op 0 8 (by kernel_rfl) rfl) ar_len Try.underlying36 rfl
    · exact owe_move rfl (wants_all rfl) (Or.inl rfl) (opnd_slot 3 1 rfl (by kernel_rfl)) rfl
    · exact owe_len rfl (wants_all rfl) rfl (opnd_op 2 10 (by kernel_rfl) rfl) ar_len Try.underlying36 rfl
    · exact owe_bin rfl (wants_all rfl) rfl (opnd_op 1 9 (by kernel_rfl) rfl) (opnd_op 3 11 (by kernel_rfl) rfl) rfl (fun ρ w h1 h2 => by exact run_neq_int_t ρ _ _ _ w _ _ (by omega) h1 h2)
  intro B2 a2 W2 S2
  replace S2 : Sta w 32 [] [(12, (Is (.bool true))), (4, (Is (.slice none 0 0))), (5, (Is (.int .i64 0))), (0, (Vv n As k)), (1, (Vv m Bs k'))] B2 a2 W2 := S2
  refine wp_cond_true (S2.bool 0 12 rfl) ?_
  refine wp_stmt_seq [.val (Is (.slice none 0 0)),
      .val (Is (.int .i64 8))] [] [.inl 0, .inl 1, .inr 0, .inr 3, .inr 4] follows S2 rfl (by kernel_rfl) ?_ ?_
  · refine ⟨⟨trivial, ?_⟩, ?_⟩
    · exact owe_move rfl (wants_all rfl) (Or.inr rfl) (opnd_const _) rfl
    · exact owe_move rfl (wants_all rfl) (Or.inr rfl) (opnd_const _) rfl
  intro B3 a3 W3 S3
  replace S3 : Sta w 32 [] [(4, (Is (.slice none 0 0))), (5, (Is (.int .i64 8))), (12, (Is (.bool true))), (0, (Vv n As k)), (1, (Vv m Bs k'))] B3 a3 W3 := S3
  refine wp_ret ?_
  refine thenR ?_
  exact end_two S3 rfl (res_tmp S3 0 4 rfl) (res_tmp S3 1 5 rfl)

theorem h_rplus {n m k k' : Nat} {As Bs : List Int} (hn : n ≤ 1048576) (hs : k ≤ 1073741824) (hs' : k' ≤ 1073741824) : ∀ w u v, Hs w (Vv n As k) u → Hs w (Vv m Bs k') v → Calls Try.prog 29 #[u, v] w (Gives (TWO (VN (lenE n m) (zipE (· + ·) n m As Bs)) (IS (.int .i64 (errE n m)))) w) := fun w u v h h' => by
  by_cases e : n = m
  · subst e
    simp only [lenE, zipE, errE, if_true]
    exact rplus_y w u v n k k' As Bs h h' hn hs hs'
  · simp only [lenE, zipE, errE, e, if_false]
    exact give_two (rplus_n w u v n m k k' As Bs h h' e) nil_vn' (fun _ _ _ h => h)

theorem zip_neg : ∀ (As Bs : List Int), List.zipWith (· + ·) As (Bs.map (fun a => -1 * a)) = List.zipWith (· - ·) As Bs
  | [], _ => by simp
  | _ :: _, [] => by simp
  | a :: As, b :: Bs => by
    simp only [List.map_cons, List.zipWith_cons_cons, zip_neg As Bs]
    congr 1
    omega
theorem zipE_neg {n m : Nat} {As Bs : List Int} : zipE (· + ·) n m As (Bs.map (fun a => -1 * a)) = zipE (· - ·) n m As Bs := by unfold zipE; rw [zip_neg]
theorem dl_neg {Bs : List Int} {k : Nat} (h : Dl Bs k) : Dl (Bs.map (fun a => -1 * a)) k := fun i z hz => by
  obtain ⟨b, hb, rfl⟩ := map_get hz
  rw [show (-1 * b).natAbs = b.natAbs from by omega]
  exact h i b hb

set_option maxHeartbeats 400000 in
theorem rminus_w (w : World) (u v : Value) (n m k k' : Nat) (As Bs : List Int) (h : Hs w (Vv n As k) u) (h' : Hs w (Vv m Bs k') v) (hn : n ≤ 1048576) (hm : m ≤ 1048576) (hs : k ≤ 1073741823) (hs' : k' ≤ 1073741823) :
    Calls Try.prog 31 #[u, v] w (Gives (TWO (VN (lenE n m) (zipE (· - ·) n m As Bs)) (IS (.int .i64 (errE n m)))) w) := by
  have hd := dl_neg (vv_dl h'.now)
  have d1 : (digs (-1 : Int).natAbs).length ≤ 1 := dl_small (by decide)
  refine calls_sta (sl := [(0, (Vv n As k)), (1, (Vv m Bs k'))]) Try.func31 rfl Try.ntmps31 (by simp) (args_cons rfl (h) (args_cons rfl (h') args_nil)) ?_
  intro a0 S0
  refine wp_stmt_seq [.val (Is (.slice none 0 0)),
      .val (Is (.int .i64 0))] [] [.inl 0, .inl 1, .inr 0, .inr 1] follows S0 rfl (by kernel_rfl) ?_ ?_
  · refine ⟨⟨trivial, ?_⟩, ?_⟩
    · exact owe_move rfl (wants_all rfl) (Or.inr rfl) (opnd_const _) rfl
    · exact owe_move rfl (wants_all rfl) (Or.inr rfl) (opnd_const _) rfl
  intro B1 a1 W1 S1
  replace S1 : Sta w 13 [] [(4, (Is (.slice none 0 0))), (5, (Is (.int .i64 0))), (0, (Vv n As k)), (1, (Vv m Bs k'))] B1 a1 W1 := S1
  refine wp_stmt_seq [.val (Vv n As k),
      .val ((ZN (-1)) w.heap.size),
      .val (Vv m Bs k'),
      .val ((VN m (Bs.map (fun a => -1 * a))) w.heap.size),
      .val ((TWO (VN (lenE n m) (zipE (· - ·) n m As Bs)) (IS (.int .i64 (errE n m)))) w.heap.size),
      .val ((VN (lenE n m) (zipE (· - ·) n m As Bs)) w.heap.size),
      .val (Is (.int .i64 (errE n m))),
      .val ((VN (lenE n m) (zipE (· - ·) n m As Bs)) w.heap.size),
      .val (Is (.int .i64 (errE n m)))] [] [.inl 7, .inl 8] follows S1 rfl (by kernel_rfl) ?_ ?_
  · refine ⟨⟨⟨⟨⟨⟨⟨⟨⟨trivial, ?_⟩, ?_⟩, ?_⟩, ?_⟩, ?_⟩, ?_⟩, ?_⟩, ?_⟩, ?_⟩
    · exact owe_move rfl (wants_all rfl) (Or.inl rfl) (opnd_slot 2 0 rfl (by kernel_rfl)) rfl
    · exact owe_call1 rfl (wants_all rfl) rfl (opnd_const _) (fresh_zn _) rfl (fun args w => by go_simp) (g_rof (-1) (by decide) (by decide))
    · exact owe_move rfl (wants_all rfl) (Or.inl rfl) (opnd_slot 3 1 rfl (by kernel_rfl)) rfl
    · exact owe_callh2 rfl (wants_all rfl) rfl ((opnd_op 1 7 (by kernel_rfl) rfl).imp (zn_zv d1)) (opnd_op 2 8 (by kernel_rfl) rfl) fresh_vn rfl (fun args w => by go_simp) (fun w u v h h' => rtimes_w w u v m k' 1 (-1) Bs h h' hm (by omega))
    · exact owe_callh2 rfl (wants_all rfl) rfl (opnd_op 0 6 (by kernel_rfl) rfl) ((opnd_op 3 9 (by kernel_rfl) rfl).imp (vn_vv hd)) (fresh_two fresh_vn (fresh_is _)) rfl (fun args w => by go_simp) (fun w u0 u1 h0 h1 => Gives.cast ((h_rplus (As := As) (Bs := Bs.map (fun a => -1 * a)) (k := k) (k' := k') hn (by omega) (by omega)) w u0 u1 h0 h1) (by rw [zipE_neg]))
    · exact owe_ext2 rfl (wants_all rfl) rfl (opnd_op 4 10 (by kernel_rfl) rfl) (Or.inl ⟨rfl, rfl⟩) rfl
    · exact owe_ext2 rfl (wants_all rfl) rfl (opnd_op 4 10 (by kernel_rfl) rfl) (Or.inr ⟨rfl, rfl⟩) rfl
    · exact owe_move rfl (wants_all rfl) (Or.inr rfl) (opnd_op 5 11 (by kernel_rfl) rfl) rfl
    · exact owe_move rfl (wants_all rfl) (Or.inr rfl) (opnd_op 6 12 (by kernel_rfl) rfl) rfl
  intro B2 a2 W2 S2
  replace S2 : Sta w 13 [] [(4, ((VN (lenE n m) (zipE (· - ·) n m As Bs)) w.heap.size)), (5, (Is (.int .i64 (errE n m))))] B2 a2 W2 := S2
  refine wp_ret ?_
  exact end_two S2 rfl (res_tmp S2 0 4 rfl) (res_tmp S2 1 5 rfl)

end Go.Proofs.Ytiehipnaklkhjaa
