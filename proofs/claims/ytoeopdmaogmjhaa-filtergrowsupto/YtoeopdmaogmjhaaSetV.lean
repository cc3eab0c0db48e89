import Derived.Test.YtoeopdmaogmjhaaVcA
/-
 mat.each and mat.pairs: the list of what a function makes of the parts of lists.
-/
namespace Go.Proofs.Ytoeopdmaogmjhaa
open Go Go.RowKit Nt
set_option linter.unusedSimpArgs false
set_option linter.unusedVariables false
set_option maxRecDepth 20000


theorem set_next {α : Type} {xs : List α} {n k : Nat} {x z : α} (hn : xs.length = n) (hk : xs[k]? = some x) : (xs.take k ++ List.replicate (n - k) z).set k x = xs.take (k + 1) ++ List.replicate (n - (k + 1)) z := by
 have hlt := (List.getElem?_eq_some_iff.1 hk).1
 have e : n - k = (n - (k + 1)) + 1 := by omega
 rw [e, List.replicate_succ, List.take_add_one, hk, List.set_append_right _ _ (by simp; omega), List.length_take, Nat.min_eq_left (by omega), Nat.sub_self]
 simp
theorem fill_end {α : Type} {xs : List α} {n k : Nat} {z : α} (hn : xs.length = n) (hk : n = k) : xs.take k ++ List.replicate (n - k) z = xs := by
 subst hk
 rw [Nat.sub_self, List.take_of_length_le (by omega)]
 simp

end Go.Proofs.Ytoeopdmaogmjhaa

/-
 Vectors: mat and the document.
-/
namespace Go.Proofs.Ytoeopdmaogmjhaa
open Go Go.RowKit Nt
set_option linter.unusedSimpArgs false
set_option linter.unusedVariables false
set_option maxRecDepth 20000


/-! Sums of lists. -/
def sumZ : List Int → Int
 | [] => 0
 | x :: r => x + sumZ r
theorem sumZ_append (a b : List Int) : sumZ (a ++ b) = sumZ a + sumZ b := by
 induction a with
 | nil => simp [sumZ]
 | cons x r ih => simp only [List.cons_append, sumZ, ih]; omega
theorem sumZ_take {l : List Int} {k : Nat} {x : Int} (h : l[k]? = some x) : sumZ (l.take (k + 1)) = sumZ (l.take k) + x := by
 rw [List.take_add_one, h, sumZ_append]
 simp [sumZ]
theorem sumZ_len {l : List Int} {m : Nat} (h : Dl l m) (k : Nat) : (digs (sumZ (l.take k)).natAbs).length ≤ m + k := by
 induction k with
 | zero => rw [show sumZ (l.take 0) = 0 from rfl, show (digs (0 : Int).natAbs) = [] from digs_zero]; exact Nat.zero_le _
 | succ k ih =>
  cases hx : l[k]? with
  | none =>
   rw [List.take_add_one, hx]
   simp only [Option.toList, List.append_nil]
   omega
  | some x =>
   rw [sumZ_take hx]
   exact dl_add ih (Nat.le_trans (h k x hx) (Nat.le_add_right _ _))
def zEl (z : Int) : El := ⟨ng z, none, (digs z.natAbs).length, 0, digs z.natAbs⟩
theorem zEl_z (z : Int) : (zEl z).z = z := by simp only [zEl, El.z]; rw [val_digs, sg_sign]
theorem tot_zs (zs : List Int) (k : Nat) : tot (zs.map zEl) k = sumZ (zs.take k) := by
 induction k with
 | zero => rfl
 | succ k ih =>
  show tot _ k + _ = _
  rw [ih, List.getElem?_map]
  cases hx : zs[k]? with
  | none =>
   rw [List.take_add_one, hx]
   simp
  | some x =>
   rw [sumZ_take hx]
   simp [zEl_z]
theorem vn_lc {n lo : Nat} {zs : List Int} : ∀ v w, VN n zs lo v w → Lc (zs.map zEl) n v w := by
 rintro v w ⟨⟨p, c, rfl, hl, ⟨h1, h2, h3⟩, ha⟩, _⟩
 have hl' : zs.length = n := by simpa using hl
 have each : ∀ i, ∃ f : El, ∀ z, zs[i]? = some z → (∃ b o, p = some ⟨b, o, none⟩ ∧ w.cell? ⟨b, o + 2 * i, none⟩ = some (.bool f.s) ∧ w.cell? ⟨b, o + 2 * i + 1, none⟩ = some (.slice f.p f.n f.c) ∧ Sl w f.p f.n f.c f.xs) ∧ f.s = (zEl z).s ∧ f.n = (zEl z).n ∧ f.xs = (zEl z).xs := fun i => by
  cases hz : zs[i]? with
  | none => exact ⟨default, fun z h => by cases h⟩
  | some z =>
   obtain ⟨b, o, u, e1, e2, e3, r, c', e4, e5, e6⟩ := ha i (ZN z lo) (by rw [List.getElem?_map, List.getElem?_map, hz]; rfl)
   refine ⟨⟨ng z, r, (digs z.natAbs).length, c', digs z.natAbs⟩, fun z' h' => ?_⟩
   cases h'
   subst e4
   exact ⟨⟨b, o, e1, e2 0 _ rfl, e2 1 _ rfl, e5⟩, rfl, rfl, rfl⟩
 obtain ⟨F, hch⟩ : ∃ F : Nat → El, ∀ (i : Nat) (z : Int), zs[i]? = some z → (∃ b o, p = some ⟨b, o, none⟩ ∧ w.cell? ⟨b, o + 2 * i, none⟩ = some (.bool (F i).s) ∧ w.cell? ⟨b, o + 2 * i + 1, none⟩ = some (.slice (F i).p (F i).n (F i).c) ∧ Sl w (F i).p (F i).n (F i).c (F i).xs) ∧ (F i).s = (zEl z).s ∧ (F i).n = (zEl z).n ∧ (F i).xs = (zEl z).xs := ⟨fun i => Classical.choose (each i), fun i => Classical.choose_spec (each i)⟩
 refine ⟨p, c, (List.range n).map F, rfl, ⟨by simp, h1, h2, h3, fun i e he => ?_⟩, by simp [hl'], fun i f e hf he => ?_⟩
 ·obtain ⟨j, hj, rfl⟩ := map_get he
  have hi : i < n := by simpa using (List.getElem?_eq_some_iff.1 hj).1
  rw [List.getElem?_range hi] at hj
  cases hj
  exact (hch i _ (List.getElem?_eq_getElem (by omega : i < zs.length))).1
 ·obtain ⟨j, hj, rfl⟩ := map_get hf
  have hi : i < n := by simpa using (List.getElem?_eq_some_iff.1 hj).1
  rw [List.getElem?_range hi] at hj
  cases hj
  obtain ⟨z, hz, rfl⟩ := map_get he
  exact (hch i z hz).2
theorem zv_dl {A : Int} {k : Nat} {u : Value} {w : World} (h : Zv A k u w) : (digs A.natAbs).length ≤ k := by
 obtain ⟨s, p, n, c, xs, rfl, hs, rfl, hn⟩ := h
 exact Nat.le_trans (sg_dl hs) hn
theorem vv_dl {n k : Nat} {zs : List Int} {u : Value} {w : World} (h : Vv n zs k u w) : Dl zs k := fun i z hz => by
 obtain ⟨p, c, _, _, _, ha⟩ := h
 obtain ⟨b, o, x, _, _, _, hx⟩ := ha i _ (map_get' (fun z => Zv z k) hz)
 exact zv_dl hx
set_option maxHeartbeats 400000 in
theorem zsum_w (w : World) (u : Value) (es : List El) (n : Nat) (h : Lc es n u w) (hn : n ≤ 1048576) (hB : ∀ (i : Nat) (e : El), es[i]? = some e → e.n ≤ 1073741824) :
  Calls Try.prog 67 #[u] w (Gives (ZN (tot es n)) w) := by
 refine calls_sta (sl := [(0, (Lc es n))]) Try.func67 rfl Try.ntmps67 (by simp) (args_cons rfl (lc_has h) args_nil) ?_
 intro a0 S0
 refine wq [.new (.box 29 zI)] [.inl 0] [.inr 0] S0 ?_ ?_
 ·apply jj1
  ·exact owe_new rfl wA rfl rfl (fun ρ w => alloc_int ρ _ w)
 intro _ a1 _ (S1 : Sta w 5 [(2, (.box 29 zI))] [(0, Lc es n)] _ _ _)
 refine wq [.val (Lc es n), .val ((ZN (tot es n)) w.heap.size), .put (.inl 2) (.box 29 ((ZN (tot es n)) w.heap.size))] [.inr 0] [] S1 ?_ ?_
 ·apply jj3
  ·exact mS 0 0
  ·exact cc1 wA (qO 0 3 rfl) (fresh_zn _) (g_ztotal hn hB)
  ·exact owe_set rfl wA rfl (k := 0) rfl (by kernel_rfl) (oO 1 4) (stores_of strct_int shp_z0 shp_zn) rfl
 intro _ a2 _ (S2 : Sta w 5 [(2, (.box 29 ((ZN (tot es n)) w.heap.size)))] [] _ _ _)
 refine wp_ret ?_
 exact end_one S2 rfl (res_cell S2 0 2 rfl strct_int shp_zn)

theorem h_zsum {n lo : Nat} {zs : List Int} (hn : n ≤ 1048576) (hl : zs.length = n) (hd : Dl zs 1073741824) : ∀ w u, Hs w (VN n zs lo) u → Calls Try.prog 67 #[u] w (Gives (ZN (sumZ zs)) w) := fun w u h => by
 have := zsum_w w u (zs.map zEl) n (vn_lc _ _ h.now) hn (fun i e he => by obtain ⟨z, hz, rfl⟩ := map_get he; exact hd i z hz)
 rw [tot_zs, List.take_of_length_le (by omega)] at this
 exact this

end Go.Proofs.Ytoeopdmaogmjhaa

/-
 The laws' own: copies of lists, and whether two lists are the same.
-/
namespace Go.Proofs.Ytoeopdmaogmjhaa
open Go Go.RowKit Nt
set_option linter.unusedSimpArgs false
set_option linter.unusedVariables false
set_option maxRecDepth 20000

end Go.Proofs.Ytoeopdmaogmjhaa
