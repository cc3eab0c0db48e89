import Derived.Test.YtblmlhhicpomkaaDoorBezMath
import Derived.Test.YtblmlhhicpomkaaDoorSetT
import Derived.Test.YtblmlhhicpomkaaDoorSetM
import Derived.Test.YtblmlhhicpomkaaDoorRTwo
/-
  Bezout's numbers: the least one, and that there is but one.
-/
namespace Go.Proofs.YtblmlhhicpomkaaDoor
open Go Go.RowKit Nt
set_option linter.unusedSimpArgs false
set_option linter.unusedVariables false

/-- The greatest common divisor. -/
def gz (A B : Int) : Nat := Nat.gcd A.natAbs B.natAbs
/-- x is the least from 0 on with which x A is the divisor, but for a multiple of B. -/
def BzP (A B x : Int) : Prop := 0 ≤ x ∧ x * (gz A B : Int) < (B.natAbs : Int) ∧ ∃ k : Int, (gz A B : Int) = x * A + k * B
theorem gz_ne {A B : Int} (hB : B ≠ 0) : gz A B ≠ 0 := fun e => hB (Int.natAbs_eq_zero.1 (Nat.eq_zero_of_gcd_eq_zero_right e))
theorem bz_uniq {A B x y : Int} (hB : B ≠ 0) (h : BzP A B x) (h' : BzP A B y) : x = y := by
  obtain ⟨h0, h1, k, hk⟩ := h
  obtain ⟨g0, g1, l, hl⟩ := h'
  obtain ⟨a, ha⟩ : ((gz A B : Nat) : Int) ∣ A := Int.ofNat_dvd_left.2 (Nat.gcd_dvd_left _ _)
  obtain ⟨b, hb⟩ : ((gz A B : Nat) : Int) ∣ B := Int.ofNat_dvd_left.2 (Nat.gcd_dvd_right _ _)
  have hg : (gz A B : Int) ≠ 0 := by have := gz_ne (A := A) hB; omega
  have gp : (0 : Int) < (gz A B : Int) := by have := gz_ne (A := A) hB; omega
  have cop : Nat.gcd a.natAbs b.natAbs = 1 := by
    have e : gz A B = gz A B * Nat.gcd a.natAbs b.natAbs := by
      have ea : A.natAbs = gz A B * a.natAbs := by conv => lhs; rw [ha, Int.natAbs_mul, Int.natAbs_natCast]
      have eb : B.natAbs = gz A B * b.natAbs := by conv => lhs; rw [hb, Int.natAbs_mul, Int.natAbs_natCast]
      rw [← Nat.gcd_mul_left, ← ea, ← eb]
      rfl
    have hp : 0 < gz A B := by have := gz_ne (A := A) hB; omega
    exact Nat.eq_of_mul_eq_mul_left hp (by omega)
  have key : (x - y) * a = (l - k) * b := by
    have : (gz A B : Int) * ((x - y) * a) = (gz A B : Int) * ((l - k) * b) := by
      have e1 : x * A + k * B = y * A + l * B := by rw [← hk, ← hl]
      have e2 : (x - y) * A = (l - k) * B := by clear hk hl ha hb; grind
      generalize (gz A B : Int) = G at *
      rw [ha, hb] at e2
      clear hk hl ha hb e1
      grind
    exact Int.eq_of_mul_eq_mul_left hg this
  have bl : ∀ z : Int, 0 ≤ z → z * (gz A B : Int) < (B.natAbs : Int) → z < (b.natAbs : Int) := by
    intro z hz hlt
    have eb : B.natAbs = gz A B * b.natAbs := by conv => lhs; rw [hb, Int.natAbs_mul, Int.natAbs_natCast]
    rw [eb, Int.natCast_mul, Int.mul_comm] at hlt
    exact Int.lt_of_mul_lt_mul_left hlt (Int.le_of_lt gp)
  have hx := bl x h0 h1
  have hy := bl y g0 g1
  have dv : b.natAbs ∣ (x - y).natAbs := by
    have : b.natAbs ∣ a.natAbs * (x - y).natAbs := by
      refine ⟨(l - k).natAbs, ?_⟩
      rw [← Int.natAbs_mul, ← Int.natAbs_mul, Int.mul_comm a, key, Int.mul_comm]
    exact Nat.Coprime.dvd_of_dvd_mul_left (Nat.Coprime.symm cop) this
  have := Nat.eq_zero_of_dvd_of_lt dv (by omega)
  omega
open Classical in
/-- That number. -/
noncomputable def bzX (A B : Int) : Int := if h : ∃ x, BzP A B x then Classical.choose h else 0
theorem bzX_eq {A B x : Int} (hB : B ≠ 0) (h : BzP A B x) : bzX A B = x := by
  unfold bzX
  rw [dif_pos ⟨x, h⟩]
  exact bz_uniq hB (Classical.choose_spec (p := fun x => BzP A B x) ⟨x, h⟩) h
/-- Brought to its least. -/
theorem bz_least {A B s : Int} {Y : Nat} (hB : B ≠ 0) (hY : gz A B * Y = B.natAbs) (h : ∃ k : Int, (gz A B : Int) = s * A + k * B) : BzP A B (rm s (Y : Int)) := by
  have hY0 : Y ≠ 0 := fun e => by rw [e, Nat.mul_zero] at hY; exact hB (Int.natAbs_eq_zero.1 hY.symm)
  obtain ⟨e, hr, _⟩ := rm_bounds (A := s) (B := (Y : Int)) (by omega)
  obtain ⟨r0, r1⟩ := hr (by omega)
  obtain ⟨k, hk⟩ := h
  have gp : (0 : Int) < (gz A B : Int) := by have := gz_ne (A := A) hB; omega
  obtain ⟨a, ha⟩ : ((gz A B : Nat) : Int) ∣ A := Int.ofNat_dvd_left.2 (Nat.gcd_dvd_left _ _)
  have hY' : (gz A B : Int) * (Y : Int) = (B.natAbs : Int) := by rw [← Int.natCast_mul, hY]
  have hs : ∃ j : Int, (B.natAbs : Int) = j * B := by
    rcases Int.natAbs_eq B with h | h
    · exact ⟨1, by omega⟩
    · exact ⟨-1, by omega⟩
  obtain ⟨j, hj⟩ := hs
  refine ⟨r0, ?_, k + fl s (Y : Int) * a * j, ?_⟩
  · rw [← hY', Int.mul_comm]
    exact Int.mul_lt_mul_of_pos_left r1 gp
  · generalize fl s (Y : Int) = q at *
    generalize rm s (Y : Int) = r at *
    rw [hj] at hY'
    generalize (gz A B : Int) = G at *
    have t : q * (Y : Int) * A = q * a * j * B := by
      rw [ha, show q * (Y : Int) * (G * a) = q * a * (G * (Y : Int)) from by clear hk hY' ha e; grind, hY']
      clear hk hY' ha e
      grind
    rw [hk, e]
    clear hk hY' ha e
    grind
theorem bz_dvd {A B x : Int} (hB : B ≠ 0) (h : BzP A B x) : rm ((gz A B : Int) - x * A) B = 0 := by
  obtain ⟨_, _, k, hk⟩ := h
  refine (fl_unique (q := k) (r := 0) hB ?_ (fun _ => ?_) (fun _ => ?_)).2
  · rw [hk]; omega
  · omega
  · omega
end Go.Proofs.YtblmlhhicpomkaaDoor

/-
  Numbers that are the caller's or new: they hold through all that a caller may turn.
-/
namespace Go.Proofs.YtblmlhhicpomkaaDoor
open Go Go.RowKit Nt
set_option linter.unusedSimpArgs false
set_option linter.unusedVariables false

/-- What is handed in as u and v holds as long as nothing of B turns. -/
def Hnd (lo : Nat) (w : World) (u v : Value) (M N : Int) (B : Nat → Prop) : Prop := lo ≤ w.heap.size ∧ (∀ k, B k → k < w.heap.size) ∧ Has B w (ZN M lo) u ∧ Has B w (ZN N lo) v
def NH (lo : Nat) (w : World) (u v : Value) (M N : Int) (m : Nat) : Pr := fun x W => w.heap.size ≤ W.heap.size ∧ ∀ B, Hnd lo w u v M N B → Has B W (NN m lo) x
def ZH (lo : Nat) (w : World) (u v : Value) (M N : Int) (z : Int) : Pr := fun x W => w.heap.size ≤ W.heap.size ∧ ∀ B, Hnd lo w u v M N B → Has B W (ZN z lo) x
section
variable {lo : Nat} {w : World} {u v : Value} {M N : Int}
theorem zn_zero {z : Int} {lo : Nat} : ∀ v w, ZN z lo v w → ZN z 0 v w := fun v w ⟨r, c, e, h, _⟩ => ⟨r, c, e, h, fun _ _ _ => Nat.zero_le _⟩
theorem nh_nn (h0 : Hnd lo w u v M N (fun _ => False)) {m : Nat} : ∀ x W, NH lo w u v M N m x W → NN m 0 x W := fun x W h => nn_zero _ _ (h.2 _ h0).now
theorem zh_zn (h0 : Hnd lo w u v M N (fun _ => False)) {z : Int} : ∀ x W, ZH lo w u v M N z x W → ZN z 0 x W := fun x W h => zn_zero _ _ (h.2 _ h0).now
theorem shp_zh (h0 : Hnd lo w u v M N (fun _ => False)) {z : Int} : Shp 2 (ZH lo w u v M N z) := fun x W h => shp_zn x W (zh_zn h0 x W h)
theorem nh_fresh {W : World} {m lo' : Nat} {x : Value} {Bc : Nat → Prop} (hlo : lo ≤ w.heap.size) (hw : w.heap.size ≤ lo') (hl : lo' ≤ W.heap.size) (hB : ∀ k, Bc k → k < lo') (h : NN m lo' x W) : Has Bc W (NH lo w u v M N m) x := fun W1 e1 =>
  ⟨by have := e1.size; omega, fun B hH W2 e2 => (fresh_nn _).mono _ _ _ _ (Nat.le_trans hlo hw) ((fresh_nn _).ev _ _ _ _ B (fun k hk => Nat.lt_of_lt_of_le (hH.2.1 k hk) hw) ((fresh_nn _).ev _ _ _ _ Bc hB h e1) e2)⟩
theorem zn_mag0 {z : Int} : ∀ u w, ZN z 0 u w → ∃ y p' n' c', u = .agg #[y, .slice p' n' c'] ∧ NN z.natAbs 0 (.slice p' n' c') w := zn_mag
/-- The limbs of what was handed in. -/
theorem zh_mag (h0 : Hnd lo w u v M N (fun _ => False)) {z : Int} : ∀ x W, ZH lo w u v M N z x W → ∃ y p' n' c', x = .agg #[y, .slice p' n' c'] ∧ NH lo w u v M N z.natAbs (.slice p' n' c') W := fun x W h => by
  obtain ⟨y, p, n, c, rfl, _⟩ := zn_mag _ _ (zh_zn h0 x W h)
  refine ⟨y, p, n, c, rfl, h.1, fun B hB W' e => ?_⟩
  obtain ⟨y', p', n', c', e', h'⟩ := zn_mag _ _ (h.2 B hB W' e)
  simp at e'
  obtain ⟨_, rfl, rfl, rfl⟩ := e'
  exact h'
theorem zh_zv (h0 : Hnd lo w u v M N (fun _ => False)) {z : Int} {k : Nat} (hk : (digs z.natAbs).length ≤ k) : ∀ x W, ZH lo w u v M N z x W → Zv z k x W := fun x W h => zn_zv hk x W (zh_zn h0 x W h)
theorem g_signedH (h0 : Hnd lo w u v M N (fun _ => False)) {s : Bool} {m : Nat} : Makes2 22 (Is (.bool s)) (NH lo w u v M N m) (ZH lo w u v M N (sg s m)) := fun W x y hx hy => by
  refine (g_signed (s := s) (m := m) (lo := lo) W x y hx (hy.2 _ h0).now).mono ?_
  rintro e w' ⟨r, rfl, hb, hr⟩
  exact ⟨r, rfl, hb, fun W' h1 h2 => ⟨h2.1, fun B hB W'' e => hr W'' h1 (h2.2 B hB W'' e)⟩⟩
theorem hnd_u : Has (fun _ => False) w (ZH lo w u v M N M) u := fun W1 e1 => ⟨e1.size, fun B hB W2 e2 => hB.2.2.1 W2 ((Ev.mono e1 (fun _ h => h.elim)).back (fun _ _ h => h) e2)⟩
theorem hnd_v : Has (fun _ => False) w (ZH lo w u v M N N) v := fun W1 e1 => ⟨e1.size, fun B hB W2 e2 => hB.2.2.2 W2 ((Ev.mono e1 (fun _ h => h.elim)).back (fun _ _ h => h) e2)⟩
theorem flat_nh (h0 : Hnd lo w u v M N (fun _ => False)) {m : Nat} : ∀ x W, NH lo w u v M N m x W → Flat x := fun x W h => flat_nn x W (nh_nn h0 x W h)
theorem nh_len (h0 : Hnd lo w u v M N (fun _ => False)) {m : Nat} : ∀ x W, NH lo w u v M N m x W → ∃ p c, x = .slice p (digs m).length c := fun x W h => nn_len x W (nh_nn h0 x W h)
end
theorem flat_bs {k lo : Nat} : ∀ v w, BS k lo v w → Flat v := fun v w ⟨_, ⟨g, c, ys, e, _⟩, _⟩ => .inl ⟨_, _, _, e⟩
theorem sl_bs {k lo : Nat} : ∀ v w, BS k lo v w → ∃ a n c, v = .slice a n c := fun v w ⟨_, ⟨g, c, ys, e, _⟩, _⟩ => ⟨_, _, _, e⟩
theorem sl_nh {lo : Nat} {w : World} {u v : Value} {M N : Int} (h0 : Hnd lo w u v M N (fun _ => False)) {m : Nat} : ∀ x W, NH lo w u v M N m x W → ∃ a n c, x = .slice a n c := fun x W h => by
  obtain ⟨p, c, e⟩ := nh_len h0 x W h
  exact ⟨_, _, _, e⟩
theorem flat_nil : ∀ v w, Is (.slice none 0 0) v w → Flat v := fun v w e => .inl ⟨_, _, _, e⟩
theorem pload_sf {ps : List Pr} {χ : Pr} {f : Nat} {T T' : TypeId} (hp : ps[f]? = some χ) (hL : Load1 T') (ρ : Operand → Value) (o : Oper) (x : Operand) (w : World) (b : Nat) (u : Value) (hφ : SF ps u w) (hx : ρ x = .pointer (some ⟨b, f, none⟩)) (hb : w.heap[b]? = some (.cells u.cells T (0, 0))) :
    ∃ v, (execOp ρ { o with op := .load T' x }).run Tryd.prog w = .ok (.value v) w ∧ ∀ w', SF ps u w' → χ v w' := by
  obtain ⟨cs, rfl, h1, h2, h3⟩ := hφ
  obtain ⟨v, hv, _⟩ := h3 f χ hp
  refine ⟨v, hL ρ w o x b f v hx (sf_cell hb hv), fun w' h' => ?_⟩
  obtain ⟨v', hv', hχ⟩ := h'.get.2.2 f χ hp
  rw [hv] at hv'
  cases hv'
  exact hχ
theorem strct_row : Strct 68 5 := ⟨⟨_, Tryd.underlying68, rfl⟩, by kernel_rfl⟩
theorem shp_w0 : Shp 5 (Is (.agg #[.slice none 0 0, .slice none 0 0, .slice none 0 0, .slice none 0 0, .bool false])) := fun u w e => ⟨_, e, rfl, by simp [Value.oneCell']⟩
theorem alloc_row (ρ : Operand → Value) (o : Oper) (w : World) : (execOp ρ { o with op := .alloc 68 }).run Tryd.prog w = .ok (.value (.pointer (some ⟨w.heap.size, 0, none⟩))) (w.alloc (.cells (Value.agg #[.slice none 0 0, .slice none 0 0, .slice none 0 0, .slice none 0 0, .bool false]).cells 68 (0, 0))) := by
  unfold execOp
  go_simp
section
variable {ops : Array Oper} {l : List Kd} {bx : Bxs} {sl : List (Tmp × Pr)} {i : Nat} {o : Oper} {Q : Exit → Act → World → Prop} {a0 : Act} {n : Nat} {w0 : World}
theorem owe_build_row {x y z : Operand} {p q r : Pr} (ho : ops[i]? = some o) (hw : Wants ops l bx sl i o) (hop : o.op = .build 68 #[(0, x), (1, y), (3, z), (4, .const (.bool true))]) (hx : Opnd ops l bx sl i x p) (hy : Opnd ops l bx sl i y q) (hz : Opnd ops l bx sl i z r) (fp : ∀ v w, p v w → ∃ a n c, v = .slice a n c) (fq : ∀ v w, q v w → ∃ a n c, v = .slice a n c) (fr : ∀ v w, r v w → ∃ a n c, v = .slice a n c) (hk : kdAt l i = .val (SF [p, q, Is (.slice none 0 0), r, Is (.bool true)])) : Owed Tryd.prog ops Q l bx sl a0 n w0 i :=
  owe_val ho hw hk fun vs B a w c => by
    have h1 := hx a0 n w0 vs B a w c
    have h2 := hy a0 n w0 vs B a w c
    have h3 := hz a0 n w0 vs B a w c
    have f1 := fp _ _ h1.now
    have f2 := fq _ _ h2.now
    have f3 := fr _ _ h3.now
    have e0 : a.eval (.const (.bool true)) = .bool true := rfl
    refine ⟨.agg #[a.eval x, a.eval y, .slice none 0 0, a.eval z, .bool true], ?_, fun w' e' => ⟨_, rfl, rfl, ?_, five_split rfl ⟨_, rfl, h1 w' e'⟩ ⟨_, rfl, h2 w' e'⟩ ⟨_, rfl, rfl⟩ ⟨_, rfl, h3 w' e'⟩ ⟨_, rfl, rfl⟩⟩⟩
    · unfold execOp
      rw [hop]
      clear h1 h2 h3 hx hy hz
      generalize a.eval = ρ at *
      obtain ⟨_, _, _, g1⟩ := f1
      obtain ⟨_, _, _, g2⟩ := f2
      obtain ⟨_, _, _, g3⟩ := f3
      rw [g1, g2, g3]
      go_simp
    · obtain ⟨_, _, _, g1⟩ := f1
      obtain ⟨_, _, _, g2⟩ := f2
      obtain ⟨_, _, _, g3⟩ := f3
      rw [g1, g2, g3]
      simp [Value.oneCell']
end
theorem Sta.rebox {w0 W : World} {n : Nat} {bx : Bxs} {sl : List (Tmp × Pr)} {B : Nat → Prop} {a : Act} (S : Sta w0 n bx sl B a W) (k : Nat) {t : Nat} {T : TypeId} {φ ψ : Pr} (h : bx[k]? = some (t, .box T φ)) (hi : ∀ v, Has B W φ v → Has B W ψ v) : Sta w0 n (bx.set k (t, .box T ψ)) sl B a W :=
  ⟨S.ent, S.bnd, S.siz, S.dfr, fun x hx => by
    rcases List.mem_or_eq_of_mem_set hx with h1 | h1
    · exact S.box x h1
    · subst h1
      obtain ⟨b, u, e, hb, hu, hφ⟩ := S.box _ (List.mem_of_getElem? h)
      exact ⟨b, u, e, hb, hu, hi u hφ⟩, fun x hx y hy b h1 h2 => by
    have key : ∀ x, x ∈ bx.set k (t, .box T ψ) → ∃ r, (x.1, r) ∈ bx := fun x hx => by
      rcases List.mem_or_eq_of_mem_set hx with h1 | h1
      · exact ⟨x.2, h1⟩
      · subst h1
        exact ⟨_, List.mem_of_getElem? h⟩
    obtain ⟨r, hr⟩ := key x hx
    obtain ⟨r', hr'⟩ := key y hy
    exact S.sep (x.1, r) hr (y.1, r') hr' b h1 h2, S.slt⟩
theorem Sta.drop1' {w0 W : World} {n : Nat} {bx : Bxs} {x : Tmp × Pr} {sl : List (Tmp × Pr)} {B : Nat → Prop} {a : Act} (S : Sta w0 n bx (x :: sl) B a W) : Sta w0 n bx sl B a W := ⟨S.ent, S.bnd, S.siz, S.dfr, S.box, S.sep, fun y hy => S.slt y (List.mem_cons_of_mem _ hy)⟩
theorem row_start {lo : Nat} {w W : World} {u v x : Value} {M N : Nat} {B : Nat → Prop} (hlo : lo ≤ w.heap.size) (hw : w.heap.size ≤ W.heap.size) (h : Has B W (SF [NH lo w u v (M : Int) (N : Int) (M : Int).natAbs, NH lo w u v (M : Int) (N : Int) (N : Int).natAbs, Is (.slice none 0 0), BS 1 w.heap.size, Is (.bool true)]) x) : Has B W (RowP (NH lo w u v (M : Int) (N : Int)) M N 0 1 true) x := fun W1 e1 => by
  have hw1 : w.heap.size ≤ W1.heap.size := Nat.le_trans hw e1.size
  obtain ⟨cs, e, a1, a2, a3⟩ := h W1 e1
  obtain ⟨y0, f0, g0⟩ := a3 0 _ rfl
  obtain ⟨y1, f1, g1⟩ := a3 1 _ rfl
  obtain ⟨y2, f2, g2⟩ := a3 2 _ rfl
  obtain ⟨y3, f3, g3⟩ := a3 3 _ rfl
  obtain ⟨y4, f4, g4⟩ := a3 4 _ rfl
  exact ⟨cs, e, a1, a2, five_split (P := fun f p => ∃ u, cs[f]? = some u ∧ p u W1) rfl ⟨y0, f0, g0⟩ ⟨y1, f1, g1⟩ ⟨y2, f2, hw1, fun B' hB' W2 e2 => zero_nn (lo := lo) _ _ g2⟩ ⟨y3, f3, hw1, fun B' hB' W2 e2 => (fresh_nn _).mono _ _ _ _ hlo ((fresh_nn _).ev _ _ _ _ B' hB'.2.1 (nn_one _ _ g3) e2)⟩ ⟨y4, f4, g4⟩⟩
/-- The row's end. -/
theorem bez_end {M N X Y A : Nat} {mn : Bool} (hM : M ≠ 0) (h : Bz M N A 0 X Y mn) : A = Nat.gcd M N ∧ Y ≠ 0 ∧ rm (sg mn X) (sg false Y) = bzX (N : Int) (M : Int) := by
  obtain ⟨h1, h2, k, h3⟩ := h.last
  have hY : Y ≠ 0 := by
    rintro rfl
    simp at h2
    exact hM h2.symm
  refine ⟨h1, hY, ?_⟩
  have hB : (M : Int) ≠ 0 := by omega
  have hg : gz (N : Int) (M : Int) = Nat.gcd M N := by unfold gz; rw [Nat.gcd_comm]; rfl
  refine (bzX_eq hB ?_).symm
  have es : sg mn X = (if mn then -(X : Int) else (X : Int)) := by cases mn <;> rfl
  rw [es]
  exact bz_least (Y := Y) hB (by rw [hg]; exact h2) ⟨k, by rw [hg]; exact h3⟩
end Go.Proofs.YtblmlhhicpomkaaDoor

/-
  Plain mathematics, no Go: Bezout's numbers, of a rest as of the number itself.
-/
namespace Go.Proofs.YtblmlhhicpomkaaDoor
open Go Go.RowKit Nt
set_option linter.unusedVariables false

theorem bz_run {M N : Nat} (b : Nat) : ∀ (A X Y : Nat) (mn : Bool), Bz M N A b X Y mn → ∃ A' X' Y' mn', Bz M N A' 0 X' Y' mn' := by
  induction b using Nat.strongRecOn with
  | _ b ih =>
    intro A X Y mn h
    by_cases hb : b = 0
    · subst hb
      exact ⟨A, X, Y, mn, h⟩
    · exact ih (A % b) (Nat.mod_lt _ (Nat.pos_of_ne_zero hb)) _ _ _ _ (h.one hb)
theorem bz_is {M N : Nat} (hM : M ≠ 0) : BzP (N : Int) (M : Int) (bzX (N : Int) (M : Int)) := by
  obtain ⟨A, X, Y, mn, h⟩ := bz_run N M 0 1 true (Bz.start (n := N) hM)
  obtain ⟨h1, h2, k, h3⟩ := h.last
  have hB : (M : Int) ≠ 0 := by omega
  have hg : gz (N : Int) (M : Int) = Nat.gcd M N := by unfold gz; rw [Nat.gcd_comm]; rfl
  have := bz_least (A := (N : Int)) (B := (M : Int)) (s := if mn then -(X : Int) else (X : Int)) (Y := Y) hB (by rw [hg]; exact h2) ⟨k, by rw [hg]; exact h3⟩
  rw [bzX_eq hB this]
  exact this
theorem gz_rest {A B q : Int} {D R : Nat} (eD : B.natAbs = D) (eA : A = q * (D : Int) + (R : Int)) : gz (R : Int) (D : Int) = gz A B := by
  unfold gz
  rw [eD, Int.natAbs_natCast, Int.natAbs_natCast]
  apply Nat.dvd_antisymm
  · refine Nat.dvd_gcd ?_ (Nat.gcd_dvd_right _ _)
    rw [← Int.ofNat_dvd_left, eA]
    exact Int.dvd_add (Int.dvd_trans (Int.natCast_dvd_natCast.2 (Nat.gcd_dvd_right R D)) (Int.dvd_mul_left _ _)) (Int.natCast_dvd_natCast.2 (Nat.gcd_dvd_left R D))
  · refine Nat.dvd_gcd ?_ (Nat.gcd_dvd_right _ _)
    have h1 : ((Nat.gcd A.natAbs D : Nat) : Int) ∣ A := Int.ofNat_dvd_left.2 (Nat.gcd_dvd_left _ _)
    have h2 : ((Nat.gcd A.natAbs D : Nat) : Int) ∣ q * (D : Int) := Int.dvd_trans (Int.natCast_dvd_natCast.2 (Nat.gcd_dvd_right _ _)) (Int.dvd_mul_left _ _)
    have h3 : (R : Int) = A - q * (D : Int) := by omega
    apply Int.natCast_dvd_natCast.1
    rw [h3]
    exact Int.dvd_sub h1 h2
theorem bzP_rest {A B q : Int} {D R : Nat} (eD : B.natAbs = D) (eA : A = q * (D : Int) + (R : Int)) (x : Int) : BzP (R : Int) (D : Int) x ↔ BzP A B x := by
  unfold BzP
  rw [gz_rest eD eA, Int.natAbs_natCast, eD]
  refine and_congr Iff.rfl (and_congr Iff.rfl ?_)
  generalize (gz A B : Int) = g
  have hs : (D : Int) = B ∨ (D : Int) = -B := by omega
  constructor
  · rintro ⟨k, hk⟩
    rcases hs with e | e
    · exact ⟨k - x * q, by rw [hk, eA, e]; grind⟩
    · exact ⟨-(k - x * q), by rw [hk, eA, e]; grind⟩
  · rintro ⟨k, hk⟩
    rcases hs with e | e
    · exact ⟨k + x * q, by rw [hk, eA, e]; grind⟩
    · exact ⟨-k + x * q, by rw [hk, eA, e]; grind⟩
theorem bzX_rest {A B q : Int} {D R : Nat} (eD : B.natAbs = D) (eA : A = q * (D : Int) + (R : Int)) : bzX (R : Int) (D : Int) = bzX A B := by
  have e : BzP (R : Int) (D : Int) = BzP A B := funext fun x => propext (bzP_rest eD eA x)
  unfold bzX
  rw [e]
theorem bz_all {A B q : Int} {D R : Nat} (hB : B ≠ 0) (eD : B.natAbs = D) (eA : A = q * (D : Int) + (R : Int)) : BzP A B (bzX A B) := by
  rw [← bzX_rest eD eA]
  exact (bzP_rest eD eA _).1 (bz_is (by omega))
section
variable {ops : Array Oper} {l : List Kd} {bx : Bxs} {sl : List (Tmp × Pr)} {i : Nat} {o : Oper} {Q : Exit → Act → World → Prop} {a0 : Act} {n : Nat} {w0 : World}
/-- The call of zint.common. -/
theorem owe_common {x y : Operand} {ts : Array TypeId} {M N : Nat} {G X : Int} (eg : ((Nat.gcd M N : Nat) : Int) = G) (ex : bzX (N : Int) (M : Int) = X) (ho : ops[i]? = some o) (hw : Wants ops l bx sl i o) (hop : o.op = .call { callee := .value (.func 28), args := #[x, y], argTypes := ts }) (hx : Opnd ops l bx sl i x (ZN (M : Int) w0.heap.size)) (hy : Opnd ops l bx sl i y (ZN (N : Int) w0.heap.size))
    (C : ∀ w u v, Hnd w0.heap.size w u v (M : Int) (N : Int) (fun _ => False) → Calls Tryd.prog 28 #[u, v] w (Gives (TWO (fun _ => ZH w0.heap.size w u v (M : Int) (N : Int) ((Nat.gcd M N : Nat) : Int)) (ZN (bzX (N : Int) (M : Int)))) w))
    (hk : kdAt l i = .val (TWO (ZN G) (ZN X) w0.heap.size)) : Owed Tryd.prog ops Q l bx sl a0 n w0 i := fun vs B a w c o' ho' => by
  subst eg
  subst ex
  obtain rfl : o = o' := Option.some.inj (ho.symm.trans ho')
  have h1 := hx a0 n w0 vs B a w c
  have h2 := hy a0 n w0 vs B a w c
  have hr : (execOp a.eval o).run Tryd.prog w = .ok (.enter 28 #[a.eval x, a.eval y]) w := by
    unfold execOp
    rw [hop]
    have hf : a.eval (.func 28) = .func (.func 28) #[] #[] := rfl
    clear h1 h2 hx hy c C
    generalize a.eval = ρ at hf
    go_simp
  simp only [wpOp, ho]
  rw [if_pos (hw a0 n w0 vs B a w c)]
  refine Or.inl ?_
  unfold Oper.wp
  rw [hr, Oper.upon_enter]
  have dn : ∀ {φ : Pr} {v : Value}, Has B w φ v → Has (fun _ => False) w φ v := fun h w' e => h w' (Ev.mono e (fun _ h => h.elim))
  refine (C w _ _ ⟨c.lo, fun _ h => h.elim, dn h1, dn h2⟩).mono ?_
  rintro e w' ⟨v, rfl, hb, p, q, rfl, hp, hq⟩
  refine ⟨_, rfl, ?_⟩
  rw [hk]
  exact ⟨hb, fun w'' e'' => ⟨p, q, rfl, hp.2 B ⟨c.lo, fun k hk => (c.bnd k hk).2, h1, h2⟩ w'' e'', (fresh_zn _).mono _ _ _ _ c.lo ((fresh_zn _).ev _ _ _ _ B (fun k hk => (c.bnd k hk).2) hq e'')⟩⟩
end
theorem sign_small (A : Int) : -1 ≤ A.sign ∧ A.sign ≤ 1 := by
  rcases Int.lt_trichotomy A 0 with h | h | h
  · rw [Int.sign_eq_neg_one_of_neg h]; omega
  · rw [h]; decide
  · rw [Int.sign_eq_one_of_pos h]; omega
theorem sgn_neg_of {A : Int} (h : A < 0) : A.sign < 0 := by rw [Int.sign_eq_neg_one_of_neg h]; omega
theorem sgn_pos_of {A : Int} (h : 0 < A) : 0 ≤ A.sign := by rw [Int.sign_eq_one_of_pos h]; omega
theorem digs_add_lenB {a b k : Nat} (h1 : (digs a).length ≤ k) (h2 : (digs b).length ≤ k) : (digs (a + b)).length ≤ k + 1 := by
  have := dl_add (a := (a : Int)) (b := (b : Int)) (k := k) (by simpa using h1) (by simpa using h2)
  rwa [← Int.natCast_add, Int.natAbs_natCast] at this
theorem gcd_len {w : World} {p q : Option Addr} {n c m d : Nat} {xs ys : List Nat} (h : Sl w p n c xs) (h' : Sl w q m d ys) : (digs (Nat.gcd (val xs) (val ys))).length ≤ n + m := by
  have a := h.dl
  have b := h'.dl
  by_cases e : val ys = 0
  · rw [e, Nat.gcd_zero_right]; omega
  · exact Nat.le_trans (digs_length_mono (Nat.le_of_dvd (Nat.pos_of_ne_zero e) (Nat.gcd_dvd_right _ _))) (by omega)
end Go.Proofs.YtblmlhhicpomkaaDoor

/-
  zint.common: the row gone through to its end.
-/
namespace Go.Proofs.YtblmlhhicpomkaaDoor
open Go Go.RowKit Nt
set_option linter.unusedSimpArgs false
set_option linter.unusedVariables false

set_option maxHeartbeats 400000 in
theorem common_w (lo : Nat) (w : World) (u v : Value) (M N : Nat) (hH : Hnd lo w u v (M : Int) (N : Int) (fun _ => False)) (hM : M ≠ 0) (hN : N < M) (hsz : (digs M).length ≤ 1099511627776) :
    Calls Tryd.prog 28 #[u, v] w (Gives (TWO (fun _ => ZH lo w u v (M : Int) (N : Int) ((Nat.gcd M N : Nat) : Int)) (ZN (bzX (N : Int) (M : Int)))) w) := by
  refine calls_sta (sl := [(0, (ZH lo w u v (M : Int) (N : Int) ((M : Int)))), (1, (ZH lo w u v (M : Int) (N : Int) ((N : Int))))]) Tryd.func28 rfl Tryd.ntmps28 (by simp) (args_cons rfl (hnd_u) (args_cons rfl (hnd_v) args_nil)) ?_
  intro a0 S0
  refine wp_stmt_seq [.new (.box 24 (ZH lo w u v (M : Int) (N : Int) ((M : Int)))),
      .new (.box 24 (ZH lo w u v (M : Int) (N : Int) ((N : Int)))),
      .new (.box 24 (Is (.agg #[.bool false, .slice none 0 0]))),
      .new (.box 24 (Is (.agg #[.bool false, .slice none 0 0])))] [.inl 0, .inl 1, .inl 2, .inl 3] [] follows S0 rfl (by kernel_rfl) ?_ ?_
  · refine ⟨⟨⟨⟨trivial, ?_⟩, ?_⟩, ?_⟩, ?_⟩
    · exact owe_box rfl (wants_all rfl) rfl (opnd_slot 0 0 rfl (by kernel_rfl)) rfl (fun ρ w h => box_int (shp_zh hH) ρ _ _ w h)
    · exact owe_box rfl (wants_all rfl) rfl (opnd_slot 1 1 rfl (by kernel_rfl)) rfl (fun ρ w h => box_int (shp_zh hH) ρ _ _ w h)
    · exact owe_new rfl (wants_all rfl) rfl rfl (fun ρ w => alloc_int ρ _ w)
    · exact owe_new rfl (wants_all rfl) rfl rfl (fun ρ w => alloc_int ρ _ w)
  intro B1 a1 W1 S1
  replace S1 : Sta w 38 [(2, (.box 24 (ZH lo w u v (M : Int) (N : Int) ((M : Int))))), (3, (.box 24 (ZH lo w u v (M : Int) (N : Int) ((N : Int))))), (4, (.box 24 (Is (.agg #[.bool false, .slice none 0 0])))), (5, (.box 24 (Is (.agg #[.bool false, .slice none 0 0]))))] [] B1 a1 W1 := S1
  refine wp_stmt_seq [.val (Part a1 2 1),
      .val (NH lo w u v (M : Int) (N : Int) (((M : Int)).natAbs)),
      .val (Part a1 3 1),
      .val (NH lo w u v (M : Int) (N : Int) (((N : Int)).natAbs)),
      .val ((BS 1) w.heap.size),
      .val (SF [(NH lo w u v (M : Int) (N : Int) (((M : Int)).natAbs)), (NH lo w u v (M : Int) (N : Int) (((N : Int)).natAbs)), (Is (.slice none 0 0)), ((BS 1) w.heap.size), (Is (.bool true))]),
      .new (.box 68 (Is (.agg #[.slice none 0 0, .slice none 0 0, .slice none 0 0, .slice none 0 0, .bool false]))),
      .put (.inr 6) (.box 68 (SF [(NH lo w u v (M : Int) (N : Int) (((M : Int)).natAbs)), (NH lo w u v (M : Int) (N : Int) (((N : Int)).natAbs)), (Is (.slice none 0 0)), ((BS 1) w.heap.size), (Is (.bool true))]))] [.inr 0, .inr 1, .inr 2, .inr 3, .inl 6] [] follows S1 rfl (by kernel_rfl) ?_ ?_
  · refine ⟨⟨⟨⟨⟨⟨⟨⟨trivial, ?_⟩, ?_⟩, ?_⟩, ?_⟩, ?_⟩, ?_⟩, ?_⟩, ?_⟩
    · exact owe_part rfl (wants_all rfl) rfl (k := 0) rfl (by kernel_rfl) rfl (fun ρ w b h => part_int1 ρ _ _ w b 0 h)
    · exact owe_pload rfl (wants_all rfl) rfl (opnd_op 0 10 (by kernel_rfl) rfl) (k := 0) rfl (by kernel_rfl) rfl (fun ρ w b u h1 h2 h3 => pload_mag (zh_mag hH) ρ _ _ w b u h1 h2 h3)
    · exact owe_part rfl (wants_all rfl) rfl (k := 1) rfl (by kernel_rfl) rfl (fun ρ w b h => part_int1 ρ _ _ w b 0 h)
    · exact owe_pload rfl (wants_all rfl) rfl (opnd_op 2 12 (by kernel_rfl) rfl) (k := 1) rfl (by kernel_rfl) rfl (fun ρ w b u h1 h2 h3 => pload_mag (zh_mag hH) ρ _ _ w b u h1 h2 h3)
    · exact owe_bs rfl (wants_all rfl) rfl (opnd_const _) (by decide) rfl
    · exact owe_build_row rfl (wants_all rfl) rfl (opnd_op 1 11 (by kernel_rfl) rfl) (opnd_op 3 13 (by kernel_rfl) rfl) (opnd_op 4 14 (by kernel_rfl) rfl) (sl_nh hH) (sl_nh hH) sl_bs rfl
    · exact owe_new rfl (wants_all rfl) rfl rfl (fun ρ w => alloc_row ρ _ w)
    · exact owe_put 6 rfl (wants_all rfl) rfl (by kernel_rfl) rfl (opnd_op 5 15 (by kernel_rfl) rfl) (stores_of strct_row shp_w0 shp_sf) rfl
  intro B2 a2 W2 S2
  replace S2 : Sta w 38 [(2, (.box 24 (ZH lo w u v (M : Int) (N : Int) ((M : Int))))), (3, (.box 24 (ZH lo w u v (M : Int) (N : Int) ((N : Int))))), (4, (.box 24 (Is (.agg #[.bool false, .slice none 0 0])))), (5, (.box 24 (Is (.agg #[.bool false, .slice none 0 0])))), (6, (.box 68 (SF [(NH lo w u v (M : Int) (N : Int) (((M : Int)).natAbs)), (NH lo w u v (M : Int) (N : Int) (((N : Int)).natAbs)), (Is (.slice none 0 0)), ((BS 1) w.heap.size), (Is (.bool true))])))] [] B2 a2 W2 := S2
  refine wp_seq ?_
  refine wp_block ?_
  replace S2 : Sta w 38 [(2, (.box 24 (ZH lo w u v (M : Int) (N : Int) ((M : Int))))), (3, (.box 24 (ZH lo w u v (M : Int) (N : Int) ((N : Int))))), (4, (.box 24 (Is (.agg #[.bool false, .slice none 0 0])))), (5, (.box 24 (Is (.agg #[.bool false, .slice none 0 0])))), (6, (.box 68 (SF [(NH lo w u v (M : Int) (N : Int) M), (NH lo w u v (M : Int) (N : Int) N), (NH lo w u v (M : Int) (N : Int) 0), (NH lo w u v (M : Int) (N : Int) 1), (Is (.bool true))])))] [] B2 a2 W2 := S2.rebox 4 rfl (fun _ h => row_start hH.1 S2.ent.size h)
  refine wp_loop_ghost (fun (q : Nat × Nat × Nat × Nat × Bool) a W => (Bz M N q.1 q.2.1 q.2.2.1 q.2.2.2.1 q.2.2.2.2 ∧ q.2.1 < q.1 ∧ q.1 ≤ M ∧ q.2.2.1 ≤ 8589934592 * M) ∧ ∃ Bs, Sta w 38 [(2, (.box 24 (ZH lo w u v (M : Int) (N : Int) ((M : Int))))), (3, (.box 24 (ZH lo w u v (M : Int) (N : Int) ((N : Int))))), (4, (.box 24 (Is (.agg #[.bool false, .slice none 0 0])))), (5, (.box 24 (Is (.agg #[.bool false, .slice none 0 0])))), (6, (.box 68 (SF [(NH lo w u v (M : Int) (N : Int) (q.1)), (NH lo w u v (M : Int) (N : Int) (q.2.1)), (NH lo w u v (M : Int) (N : Int) (q.2.2.1)), (NH lo w u v (M : Int) (N : Int) (q.2.2.2.1)), (Is (.bool q.2.2.2.2))])))] [] Bs a W) (fun (q : Nat × Nat × Nat × Nat × Bool) => q.2.1) ?_ (M, N, 0, 1, true) ⟨⟨Bz.start hM, hN, Nat.le_refl _, Nat.zero_le _⟩, B2, S2.sub [0, 1, 2, 3, 4] []⟩
  rintro q a3 W3 ⟨hcond, B3, S3⟩
  by_cases hb : q.2.1 = 0
  · have hl : (digs q.2.1).length = 0 := (digs_length_zero _).2 hb
    have hz := hcond.1
    rw [hb] at hz
    obtain ⟨l1, l2, l3⟩ := bez_end hM hz
    have dX : (digs (sg q.2.2.2.2 q.2.2.1).natAbs).length ≤ 2 + (digs M).length := by rw [sg_abs]; exact Nat.le_trans (digs_length_mono hcond.2.2.2) (digs_mul_len (k := 2) (show (digs 8589934592).length ≤ 2 by decide) (Nat.le_refl _))
    have dY : (digs (sg false q.2.2.2.1).natAbs).length ≤ (digs M).length := by rw [sg_abs]; exact digs_length_mono hz.y_le
    have hYZ : sg false q.2.2.2.1 ≠ 0 := by show ((q.2.2.2.1 : Nat) : Int) ≠ 0; omega
    have hG : sg false q.1 = ((Nat.gcd M N : Nat) : Int) := by rw [l1]; rfl
    refine wp_seq ?_
    refine wp_stmt_seq [.val (Part a3 6 1),
      .val (NH lo w u v (M : Int) (N : Int) (q.2.1)),
      .val (Is (.int .i64 ((digs (q.2.1)).length : Nat))),
      .val (Is (.bool false))] [.inr 0, .inr 1, .inr 2, .inr 3, .inr 4] [.inl 3] follows S3 rfl (by kernel_rfl) ?_ ?_
    · refine ⟨⟨⟨⟨trivial, ?_⟩, ?_⟩, ?_⟩, ?_⟩
      · exact owe_part rfl (wants_all rfl) rfl (k := 4) rfl (by kernel_rfl) rfl (fun ρ w b h => part_row1 ρ _ _ w b h)
      · exact owe_pload rfl (wants_all rfl) rfl (opnd_op 0 16 (by kernel_rfl) rfl) (k := 4) rfl (by kernel_rfl) rfl (fun ρ w b u h1 h2 h3 => pload_sf rfl load1_sl ρ _ _ w b u h1 h2 h3)
      · exact owe_len rfl (wants_all rfl) rfl (opnd_op 1 17 (by kernel_rfl) rfl) (nh_len hH) Tryd.underlying22 rfl
      · exact owe_bin rfl (wants_all rfl) rfl (opnd_op 2 18 (by kernel_rfl) rfl) (opnd_const _) rfl (fun ρ w h1 h2 => by exact run_gtr_int_f ρ _ _ _ w _ _ (by omega) h1 h2)
    intro B4 a4 W4 S4
    replace S4 : Sta w 38 [(2, (.box 24 (ZH lo w u v (M : Int) (N : Int) ((M : Int))))), (3, (.box 24 (ZH lo w u v (M : Int) (N : Int) ((N : Int))))), (4, (.box 24 (Is (.agg #[.bool false, .slice none 0 0])))), (5, (.box 24 (Is (.agg #[.bool false, .slice none 0 0])))), (6, (.box 68 (SF [(NH lo w u v (M : Int) (N : Int) (q.1)), (NH lo w u v (M : Int) (N : Int) (q.2.1)), (NH lo w u v (M : Int) (N : Int) (q.2.2.1)), (NH lo w u v (M : Int) (N : Int) (q.2.2.2.1)), (Is (.bool q.2.2.2.2))])))] [(19, (Is (.bool false)))] B4 a4 W4 := S4
    refine wp_cond_false (S4.bool 0 19 rfl) ?_
    refine wp_exit ?_
    refine thenX ?_
    refine thenX ?_
    refine inBlkE ?_
    refine thenN ?_
    refine wp_stmt_seq [.val (Part a4 6 4),
      .val (Is (.bool q.2.2.2.2)),
      .val (Part a4 6 2),
      .val (NH lo w u v (M : Int) (N : Int) (q.2.2.1)),
      .val (ZH lo w u v (M : Int) (N : Int) (sg (q.2.2.2.2) (q.2.2.1))),
      .val (Part a4 6 3),
      .val (NH lo w u v (M : Int) (N : Int) (q.2.2.2.1)),
      .val (ZH lo w u v (M : Int) (N : Int) (sg false (q.2.2.2.1))),
      .val ((THREE (ZN (fl (sg q.2.2.2.2 q.2.2.1) (sg false q.2.2.2.1))) (ZN (bzX (N : Int) (M : Int))) (IS (.int .i64 0))) w.heap.size),
      .val ((THREE (ZN (fl (sg q.2.2.2.2 q.2.2.1) (sg false q.2.2.2.1))) (ZN (bzX (N : Int) (M : Int))) (IS (.int .i64 0))) w.heap.size),
      .val ((ZN (fl (sg q.2.2.2.2 q.2.2.1) (sg false q.2.2.2.1))) w.heap.size),
      .val ((ZN (bzX (N : Int) (M : Int))) w.heap.size),
      .val (Is (.int .i64 0)),
      .new (.box 24 (Is (.agg #[.bool false, .slice none 0 0]))),
      .new (.box 24 (Is (.agg #[.bool false, .slice none 0 0]))),
      .put (.inr 13) (.box 24 ((ZN (fl (sg q.2.2.2.2 q.2.2.1) (sg false q.2.2.2.1))) w.heap.size)),
      .put (.inr 14) (.box 24 ((ZN (bzX (N : Int) (M : Int))) w.heap.size)),
      .val (Is (.int .i64 0))] [.inr 0, .inr 1, .inr 2, .inr 3, .inr 4, .inl 13, .inl 14] [.inr 0] follows S4 rfl (by kernel_rfl) ?_ ?_
    · refine ⟨⟨⟨⟨⟨⟨⟨⟨⟨⟨⟨⟨⟨⟨⟨⟨⟨⟨trivial, ?_⟩, ?_⟩, ?_⟩, ?_⟩, ?_⟩, ?_⟩, ?_⟩, ?_⟩, ?_⟩, ?_⟩, ?_⟩, ?_⟩, ?_⟩, ?_⟩, ?_⟩, ?_⟩, ?_⟩, ?_⟩
      · exact owe_part rfl (wants_all rfl) rfl (k := 4) rfl (by kernel_rfl) rfl (fun ρ w b h => part_row4 ρ _ _ w b h)
      · exact owe_pload rfl (wants_all rfl) rfl (opnd_op 0 22 (by kernel_rfl) rfl) (k := 4) rfl (by kernel_rfl) rfl (fun ρ w b u h1 h2 h3 => pload_sf rfl load1_bool ρ _ _ w b u h1 h2 h3)
      · exact owe_part rfl (wants_all rfl) rfl (k := 4) rfl (by kernel_rfl) rfl (fun ρ w b h => part_row2 ρ _ _ w b h)
      · exact owe_pload rfl (wants_all rfl) rfl (opnd_op 2 24 (by kernel_rfl) rfl) (k := 4) rfl (by kernel_rfl) rfl (fun ρ w b u h1 h2 h3 => pload_sf rfl load1_sl ρ _ _ w b u h1 h2 h3)
      · exact owe_callF2 rfl (wants_all rfl) rfl (opnd_op 1 23 (by kernel_rfl) rfl) (opnd_op 3 25 (by kernel_rfl) rfl) rfl (fun args w => by go_simp) (g_signedH hH)
      · exact owe_part rfl (wants_all rfl) rfl (k := 4) rfl (by kernel_rfl) rfl (fun ρ w b h => part_row3 ρ _ _ w b h)
      · exact owe_pload rfl (wants_all rfl) rfl (opnd_op 5 27 (by kernel_rfl) rfl) (k := 4) rfl (by kernel_rfl) rfl (fun ρ w b u h1 h2 h3 => pload_sf rfl load1_sl ρ _ _ w b u h1 h2 h3)
      · exact owe_callF2 rfl (wants_all rfl) rfl (opnd_const _) (opnd_op 6 28 (by kernel_rfl) rfl) rfl (fun args w => by go_simp) (g_signedH hH)
      · exact owe_call2 rfl (wants_all rfl) rfl (opnd_op 4 26 (by kernel_rfl) rfl) (opnd_op 7 29 (by kernel_rfl) rfl) (fresh_three (fresh_zn _) (fresh_zn _) (fresh_is _)) rfl (fun args w => by go_simp) (fun w u0 u1 h0 h1 => Gives.cast ((fun w u v h1 h2 => g_zfloor hYZ (by omega) (by omega) w u v ((zh_zv hH (Nat.le_refl _)) _ _ h1) ((zh_zv hH (Nat.le_refl _)) _ _ h2)) w u0 u1 h0 h1) (by rw [l3]))
      · exact owe_move rfl (wants_all rfl) (Or.inl rfl) (opnd_op 8 30 (by kernel_rfl) rfl) rfl
      · exact owe_ext3 rfl (wants_all rfl) rfl (opnd_op 9 21 (by kernel_rfl) rfl) (Or.inl ⟨rfl, rfl⟩) rfl
      · exact owe_ext3 rfl (wants_all rfl) rfl (opnd_op 9 21 (by kernel_rfl) rfl) (Or.inr (Or.inl ⟨rfl, rfl⟩)) rfl
      · exact owe_ext3 rfl (wants_all rfl) rfl (opnd_op 9 21 (by kernel_rfl) rfl) (Or.inr (Or.inr ⟨rfl, rfl⟩)) rfl
      · exact owe_new rfl (wants_all rfl) rfl rfl (fun ρ w => alloc_int ρ _ w)
      · exact owe_new rfl (wants_all rfl) rfl rfl (fun ρ w => alloc_int ρ _ w)
      · exact owe_put 13 rfl (wants_all rfl) rfl (by kernel_rfl) rfl (opnd_op 10 31 (by kernel_rfl) rfl) (stores_of strct_int shp_z0 shp_zn) rfl
      · exact owe_put 14 rfl (wants_all rfl) rfl (by kernel_rfl) rfl (opnd_op 11 32 (by kernel_rfl) rfl) (stores_of strct_int shp_z0 shp_zn) rfl
      · exact owe_move rfl (wants_all rfl) (Or.inr rfl) (opnd_op 12 33 (by kernel_rfl) rfl) rfl
    intro B5 a5 W5 S5
    replace S5 : Sta w 38 [(2, (.box 24 (ZH lo w u v (M : Int) (N : Int) ((M : Int))))), (3, (.box 24 (ZH lo w u v (M : Int) (N : Int) ((N : Int))))), (4, (.box 24 (Is (.agg #[.bool false, .slice none 0 0])))), (5, (.box 24 (Is (.agg #[.bool false, .slice none 0 0])))), (6, (.box 68 (SF [(NH lo w u v (M : Int) (N : Int) (q.1)), (NH lo w u v (M : Int) (N : Int) (q.2.1)), (NH lo w u v (M : Int) (N : Int) (q.2.2.1)), (NH lo w u v (M : Int) (N : Int) (q.2.2.2.1)), (Is (.bool q.2.2.2.2))]))), (7, (.box 24 ((ZN (fl (sg q.2.2.2.2 q.2.2.1) (sg false q.2.2.2.1))) w.heap.size))), (8, (.box 24 ((ZN (bzX (N : Int) (M : Int))) w.heap.size)))] [(19, (Is (.bool false)))] B5 a5 W5 := S5
    refine wp_stmt_seq [.val (Part a5 6 0),
      .val (NH lo w u v (M : Int) (N : Int) (q.1)),
      .val (ZH lo w u v (M : Int) (N : Int) (((Nat.gcd M N : Nat) : Int))),
      .val ((ZN (bzX (N : Int) (M : Int))) w.heap.size),
      .put (.inl 4) (.box 24 (ZH lo w u v (M : Int) (N : Int) (((Nat.gcd M N : Nat) : Int)))),
      .put (.inl 5) (.box 24 ((ZN (bzX (N : Int) (M : Int))) w.heap.size))] [.inr 0, .inr 1, .inr 2, .inr 3, .inr 4, .inr 5, .inr 6] [.inr 0] follows S5 rfl (by kernel_rfl) ?_ ?_
    · refine ⟨⟨⟨⟨⟨⟨trivial, ?_⟩, ?_⟩, ?_⟩, ?_⟩, ?_⟩, ?_⟩
      · exact owe_part rfl (wants_all rfl) rfl (k := 4) rfl (by kernel_rfl) rfl (fun ρ w b h => part_row0 ρ _ _ w b h)
      · exact owe_pload rfl (wants_all rfl) rfl (opnd_op 0 34 (by kernel_rfl) rfl) (k := 4) rfl (by kernel_rfl) rfl (fun ρ w b u h1 h2 h3 => pload_sf rfl load1_sl ρ _ _ w b u h1 h2 h3)
      · exact owe_callF2 rfl (wants_all rfl) rfl (opnd_const _) (opnd_op 1 35 (by kernel_rfl) rfl) rfl (fun args w => by go_simp) (by rw [← hG]; exact g_signedH hH)
      · exact owe_load rfl (wants_all rfl) rfl (k := 6) rfl (by kernel_rfl) (loads_of strct_int shp_zn) rfl
      · exact owe_set rfl (wants_all rfl) rfl (k := 2) rfl (by kernel_rfl) (opnd_op 2 36 (by kernel_rfl) rfl) (stores_of strct_int shp_z0 (shp_zh hH)) rfl
      · exact owe_set rfl (wants_all rfl) rfl (k := 3) rfl (by kernel_rfl) (opnd_op 3 37 (by kernel_rfl) rfl) (stores_of strct_int shp_z0 shp_zn) rfl
    intro B6 a6 W6 S6
    replace S6 : Sta w 38 [(2, (.box 24 (ZH lo w u v (M : Int) (N : Int) ((M : Int))))), (3, (.box 24 (ZH lo w u v (M : Int) (N : Int) ((N : Int))))), (4, (.box 24 (ZH lo w u v (M : Int) (N : Int) (((Nat.gcd M N : Nat) : Int))))), (5, (.box 24 ((ZN (bzX (N : Int) (M : Int))) w.heap.size))), (6, (.box 68 (SF [(NH lo w u v (M : Int) (N : Int) (q.1)), (NH lo w u v (M : Int) (N : Int) (q.2.1)), (NH lo w u v (M : Int) (N : Int) (q.2.2.1)), (NH lo w u v (M : Int) (N : Int) (q.2.2.2.1)), (Is (.bool q.2.2.2.2))]))), (7, (.box 24 ((ZN (fl (sg q.2.2.2.2 q.2.2.1) (sg false q.2.2.2.1))) w.heap.size))), (8, (.box 24 ((ZN (bzX (N : Int) (M : Int))) w.heap.size)))] [(19, (Is (.bool false)))] B6 a6 W6 := S6
    refine wp_ret ?_
    exact end_two S6 rfl (res_cell S6 2 4 rfl strct_int (shp_zh hH)) (res_cell S6 3 5 rfl strct_int shp_zn)
  · have hl : (digs q.2.1).length ≠ 0 := fun e => hb ((digs_length_zero _).1 e)
    have sA : (digs q.1).length ≤ 1099511627776 := Nat.le_trans (digs_length_mono hcond.2.2.1) hsz
    have sX : (digs q.2.2.1).length ≤ 1099511627776 := Nat.le_trans (digs_length_mono (hcond.1.x_le hb)) hsz
    have sY : (digs q.2.2.2.1).length ≤ 1099511627776 := Nat.le_trans (digs_length_mono hcond.1.y_le) hsz
    refine wp_seq ?_
    refine wp_stmt_seq [.val (Part a3 6 1),
      .val (NH lo w u v (M : Int) (N : Int) (q.2.1)),
      .val (Is (.int .i64 ((digs (q.2.1)).length : Nat))),
      .val (Is (.bool true))] [.inr 0, .inr 1, .inr 2, .inr 3, .inr 4] [.inl 3] follows S3 rfl (by kernel_rfl) ?_ ?_
    · refine ⟨⟨⟨⟨trivial, ?_⟩, ?_⟩, ?_⟩, ?_⟩
      · exact owe_part rfl (wants_all rfl) rfl (k := 4) rfl (by kernel_rfl) rfl (fun ρ w b h => part_row1 ρ _ _ w b h)
      · exact owe_pload rfl (wants_all rfl) rfl (opnd_op 0 16 (by kernel_rfl) rfl) (k := 4) rfl (by kernel_rfl) rfl (fun ρ w b u h1 h2 h3 => pload_sf rfl load1_sl ρ _ _ w b u h1 h2 h3)
      · exact owe_len rfl (wants_all rfl) rfl (opnd_op 1 17 (by kernel_rfl) rfl) (nh_len hH) Tryd.underlying22 rfl
      · exact owe_bin rfl (wants_all rfl) rfl (opnd_op 2 18 (by kernel_rfl) rfl) (opnd_const _) rfl (fun ρ w h1 h2 => by exact run_gtr_int_t ρ _ _ _ w _ _ (by omega) h1 h2)
    intro B4 a4 W4 S4
    replace S4 : Sta w 38 [(2, (.box 24 (ZH lo w u v (M : Int) (N : Int) ((M : Int))))), (3, (.box 24 (ZH lo w u v (M : Int) (N : Int) ((N : Int))))), (4, (.box 24 (Is (.agg #[.bool false, .slice none 0 0])))), (5, (.box 24 (Is (.agg #[.bool false, .slice none 0 0])))), (6, (.box 68 (SF [(NH lo w u v (M : Int) (N : Int) (q.1)), (NH lo w u v (M : Int) (N : Int) (q.2.1)), (NH lo w u v (M : Int) (N : Int) (q.2.2.1)), (NH lo w u v (M : Int) (N : Int) (q.2.2.2.1)), (Is (.bool q.2.2.2.2))])))] [(19, (Is (.bool true)))] B4 a4 W4 := S4
    refine wp_cond_true (S4.bool 0 19 rfl) ?_
    refine wp_skip ?_
    refine thenN ?_
    refine wp_block ?_
    refine wp_region_lit ?_
    obtain ⟨g, u6, p6, B6, q6, f6⟩ := S4.box _ (List.mem_of_getElem? (show ([(2, (.box 24 (ZH lo w u v (M : Int) (N : Int) ((M : Int))))), (3, (.box 24 (ZH lo w u v (M : Int) (N : Int) ((N : Int))))), (4, (.box 24 (Is (.agg #[.bool false, .slice none 0 0])))), (5, (.box 24 (Is (.agg #[.bool false, .slice none 0 0])))), (6, (.box 68 (SF [(NH lo w u v (M : Int) (N : Int) (q.1)), (NH lo w u v (M : Int) (N : Int) (q.2.1)), (NH lo w u v (M : Int) (N : Int) (q.2.2.1)), (NH lo w u v (M : Int) (N : Int) (q.2.2.2.1)), (Is (.bool q.2.2.2.2))])))] : Bxs)[4]? = some _ from rfl))
    have hbd := S4.bnd
    refine wpl_call (f := 42) (args := #[.pointer (some ⟨g, 0, none⟩)]) rfl (by have hf : a4.eval (.func 42) = .func (.func 42) #[] #[] := rfl; unfold execOp; clear f6 S4; generalize a4.eval = ρ at p6 hf; go_simp) ?_
    refine (next_all (M := M) (N := N) (P := NH lo w u v (M : Int) (N : Int)) (fun m x W h => nh_nn hH x W h) W4 g q.1 q.2.1 q.2.2.1 q.2.2.2.1 q.2.2.2.2 u6 B4 (fun k hk => (hbd k hk).2) B6 (fun w' m x e h => nh_fresh (lo' := W4.heap.size) hH.1 S4.ent.size e.size (fun k hk => (hbd k hk).2) h) q6 f6 hcond.1 hb (Nat.le_of_lt hcond.2.1) sA sX sY).mono ?_
    rintro e W' ⟨rfl, he, u', A', b', X', Y', mn', y1, y2, hz', hlt, hlt2, hle2, hX'⟩
    refine ⟨_, rfl, ?_⟩
    have mm : ∀ j, j = g → B4 j := fun j e => e ▸ B6
    have S5 := S4.turn (bx' := [(2, (.box 24 (ZH lo w u v (M : Int) (N : Int) ((M : Int))))), (3, (.box 24 (ZH lo w u v (M : Int) (N : Int) ((N : Int))))), (4, (.box 24 (Is (.agg #[.bool false, .slice none 0 0])))), (5, (.box 24 (Is (.agg #[.bool false, .slice none 0 0])))), (6, (.box 68 (SF [(NH lo w u v (M : Int) (N : Int) A'), (NH lo w u v (M : Int) (N : Int) b'), (NH lo w u v (M : Int) (N : Int) X'), (NH lo w u v (M : Int) (N : Int) Y'), (Is (.bool mn'))])))]) he mm (by
      intro x hx
      simp only [List.mem_cons, List.not_mem_nil, or_false] at hx
      rcases hx with rfl | rfl | rfl | rfl | rfl
      · exact ⟨⟨_, (List.mem_of_getElem? (show ([(2, (.box 24 (ZH lo w u v (M : Int) (N : Int) ((M : Int))))), (3, (.box 24 (ZH lo w u v (M : Int) (N : Int) ((N : Int))))), (4, (.box 24 (Is (.agg #[.bool false, .slice none 0 0])))), (5, (.box 24 (Is (.agg #[.bool false, .slice none 0 0])))), (6, (.box 68 (SF [(NH lo w u v (M : Int) (N : Int) (q.1)), (NH lo w u v (M : Int) (N : Int) (q.2.1)), (NH lo w u v (M : Int) (N : Int) (q.2.2.1)), (NH lo w u v (M : Int) (N : Int) (q.2.2.2.1)), (Is (.bool q.2.2.2.2))])))] : Bxs)[0]? = some _ from rfl))⟩, S4.still he mm (List.mem_of_getElem? (show ([(2, (.box 24 (ZH lo w u v (M : Int) (N : Int) ((M : Int))))), (3, (.box 24 (ZH lo w u v (M : Int) (N : Int) ((N : Int))))), (4, (.box 24 (Is (.agg #[.bool false, .slice none 0 0])))), (5, (.box 24 (Is (.agg #[.bool false, .slice none 0 0])))), (6, (.box 68 (SF [(NH lo w u v (M : Int) (N : Int) (q.1)), (NH lo w u v (M : Int) (N : Int) (q.2.1)), (NH lo w u v (M : Int) (N : Int) (q.2.2.1)), (NH lo w u v (M : Int) (N : Int) (q.2.2.2.1)), (Is (.bool q.2.2.2.2))])))] : Bxs)[0]? = some _ from rfl)) (fun b hb2 hs => by subst hs; exact absurd (S4.sep _ (List.mem_of_getElem? (show ([(2, (.box 24 (ZH lo w u v (M : Int) (N : Int) ((M : Int))))), (3, (.box 24 (ZH lo w u v (M : Int) (N : Int) ((N : Int))))), (4, (.box 24 (Is (.agg #[.bool false, .slice none 0 0])))), (5, (.box 24 (Is (.agg #[.bool false, .slice none 0 0])))), (6, (.box 68 (SF [(NH lo w u v (M : Int) (N : Int) (q.1)), (NH lo w u v (M : Int) (N : Int) (q.2.1)), (NH lo w u v (M : Int) (N : Int) (q.2.2.1)), (NH lo w u v (M : Int) (N : Int) (q.2.2.2.1)), (Is (.bool q.2.2.2.2))])))] : Bxs)[0]? = some _ from rfl)) _ (List.mem_of_getElem? (show ([(2, (.box 24 (ZH lo w u v (M : Int) (N : Int) ((M : Int))))), (3, (.box 24 (ZH lo w u v (M : Int) (N : Int) ((N : Int))))), (4, (.box 24 (Is (.agg #[.bool false, .slice none 0 0])))), (5, (.box 24 (Is (.agg #[.bool false, .slice none 0 0])))), (6, (.box 68 (SF [(NH lo w u v (M : Int) (N : Int) (q.1)), (NH lo w u v (M : Int) (N : Int) (q.2.1)), (NH lo w u v (M : Int) (N : Int) (q.2.2.1)), (NH lo w u v (M : Int) (N : Int) (q.2.2.2.1)), (Is (.bool q.2.2.2.2))])))] : Bxs)[4]? = some _ from rfl)) _ hb2 (by show vblock (a4.eval (.tmp 6)) = _; rw [p6]; rfl)) (show ¬ (2 : Nat) = 6 by decide))⟩
      · exact ⟨⟨_, (List.mem_of_getElem? (show ([(2, (.box 24 (ZH lo w u v (M : Int) (N : Int) ((M : Int))))), (3, (.box 24 (ZH lo w u v (M : Int) (N : Int) ((N : Int))))), (4, (.box 24 (Is (.agg #[.bool false, .slice none 0 0])))), (5, (.box 24 (Is (.agg #[.bool false, .slice none 0 0])))), (6, (.box 68 (SF [(NH lo w u v (M : Int) (N : Int) (q.1)), (NH lo w u v (M : Int) (N : Int) (q.2.1)), (NH lo w u v (M : Int) (N : Int) (q.2.2.1)), (NH lo w u v (M : Int) (N : Int) (q.2.2.2.1)), (Is (.bool q.2.2.2.2))])))] : Bxs)[1]? = some _ from rfl))⟩, S4.still he mm (List.mem_of_getElem? (show ([(2, (.box 24 (ZH lo w u v (M : Int) (N : Int) ((M : Int))))), (3, (.box 24 (ZH lo w u v (M : Int) (N : Int) ((N : Int))))), (4, (.box 24 (Is (.agg #[.bool false, .slice none 0 0])))), (5, (.box 24 (Is (.agg #[.bool false, .slice none 0 0])))), (6, (.box 68 (SF [(NH lo w u v (M : Int) (N : Int) (q.1)), (NH lo w u v (M : Int) (N : Int) (q.2.1)), (NH lo w u v (M : Int) (N : Int) (q.2.2.1)), (NH lo w u v (M : Int) (N : Int) (q.2.2.2.1)), (Is (.bool q.2.2.2.2))])))] : Bxs)[1]? = some _ from rfl)) (fun b hb2 hs => by subst hs; exact absurd (S4.sep _ (List.mem_of_getElem? (show ([(2, (.box 24 (ZH lo w u v (M : Int) (N : Int) ((M : Int))))), (3, (.box 24 (ZH lo w u v (M : Int) (N : Int) ((N : Int))))), (4, (.box 24 (Is (.agg #[.bool false, .slice none 0 0])))), (5, (.box 24 (Is (.agg #[.bool false, .slice none 0 0])))), (6, (.box 68 (SF [(NH lo w u v (M : Int) (N : Int) (q.1)), (NH lo w u v (M : Int) (N : Int) (q.2.1)), (NH lo w u v (M : Int) (N : Int) (q.2.2.1)), (NH lo w u v (M : Int) (N : Int) (q.2.2.2.1)), (Is (.bool q.2.2.2.2))])))] : Bxs)[1]? = some _ from rfl)) _ (List.mem_of_getElem? (show ([(2, (.box 24 (ZH lo w u v (M : Int) (N : Int) ((M : Int))))), (3, (.box 24 (ZH lo w u v (M : Int) (N : Int) ((N : Int))))), (4, (.box 24 (Is (.agg #[.bool false, .slice none 0 0])))), (5, (.box 24 (Is (.agg #[.bool false, .slice none 0 0])))), (6, (.box 68 (SF [(NH lo w u v (M : Int) (N : Int) (q.1)), (NH lo w u v (M : Int) (N : Int) (q.2.1)), (NH lo w u v (M : Int) (N : Int) (q.2.2.1)), (NH lo w u v (M : Int) (N : Int) (q.2.2.2.1)), (Is (.bool q.2.2.2.2))])))] : Bxs)[4]? = some _ from rfl)) _ hb2 (by show vblock (a4.eval (.tmp 6)) = _; rw [p6]; rfl)) (show ¬ (3 : Nat) = 6 by decide))⟩
      · exact ⟨⟨_, (List.mem_of_getElem? (show ([(2, (.box 24 (ZH lo w u v (M : Int) (N : Int) ((M : Int))))), (3, (.box 24 (ZH lo w u v (M : Int) (N : Int) ((N : Int))))), (4, (.box 24 (Is (.agg #[.bool false, .slice none 0 0])))), (5, (.box 24 (Is (.agg #[.bool false, .slice none 0 0])))), (6, (.box 68 (SF [(NH lo w u v (M : Int) (N : Int) (q.1)), (NH lo w u v (M : Int) (N : Int) (q.2.1)), (NH lo w u v (M : Int) (N : Int) (q.2.2.1)), (NH lo w u v (M : Int) (N : Int) (q.2.2.2.1)), (Is (.bool q.2.2.2.2))])))] : Bxs)[2]? = some _ from rfl))⟩, S4.still he mm (List.mem_of_getElem? (show ([(2, (.box 24 (ZH lo w u v (M : Int) (N : Int) ((M : Int))))), (3, (.box 24 (ZH lo w u v (M : Int) (N : Int) ((N : Int))))), (4, (.box 24 (Is (.agg #[.bool false, .slice none 0 0])))), (5, (.box 24 (Is (.agg #[.bool false, .slice none 0 0])))), (6, (.box 68 (SF [(NH lo w u v (M : Int) (N : Int) (q.1)), (NH lo w u v (M : Int) (N : Int) (q.2.1)), (NH lo w u v (M : Int) (N : Int) (q.2.2.1)), (NH lo w u v (M : Int) (N : Int) (q.2.2.2.1)), (Is (.bool q.2.2.2.2))])))] : Bxs)[2]? = some _ from rfl)) (fun b hb2 hs => by subst hs; exact absurd (S4.sep _ (List.mem_of_getElem? (show ([(2, (.box 24 (ZH lo w u v (M : Int) (N : Int) ((M : Int))))), (3, (.box 24 (ZH lo w u v (M : Int) (N : Int) ((N : Int))))), (4, (.box 24 (Is (.agg #[.bool false, .slice none 0 0])))), (5, (.box 24 (Is (.agg #[.bool false, .slice none 0 0])))), (6, (.box 68 (SF [(NH lo w u v (M : Int) (N : Int) (q.1)), (NH lo w u v (M : Int) (N : Int) (q.2.1)), (NH lo w u v (M : Int) (N : Int) (q.2.2.1)), (NH lo w u v (M : Int) (N : Int) (q.2.2.2.1)), (Is (.bool q.2.2.2.2))])))] : Bxs)[2]? = some _ from rfl)) _ (List.mem_of_getElem? (show ([(2, (.box 24 (ZH lo w u v (M : Int) (N : Int) ((M : Int))))), (3, (.box 24 (ZH lo w u v (M : Int) (N : Int) ((N : Int))))), (4, (.box 24 (Is (.agg #[.bool false, .slice none 0 0])))), (5, (.box 24 (Is (.agg #[.bool false, .slice none 0 0])))), (6, (.box 68 (SF [(NH lo w u v (M : Int) (N : Int) (q.1)), (NH lo w u v (M : Int) (N : Int) (q.2.1)), (NH lo w u v (M : Int) (N : Int) (q.2.2.1)), (NH lo w u v (M : Int) (N : Int) (q.2.2.2.1)), (Is (.bool q.2.2.2.2))])))] : Bxs)[4]? = some _ from rfl)) _ hb2 (by show vblock (a4.eval (.tmp 6)) = _; rw [p6]; rfl)) (show ¬ (4 : Nat) = 6 by decide))⟩
      · exact ⟨⟨_, (List.mem_of_getElem? (show ([(2, (.box 24 (ZH lo w u v (M : Int) (N : Int) ((M : Int))))), (3, (.box 24 (ZH lo w u v (M : Int) (N : Int) ((N : Int))))), (4, (.box 24 (Is (.agg #[.bool false, .slice none 0 0])))), (5, (.box 24 (Is (.agg #[.bool false, .slice none 0 0])))), (6, (.box 68 (SF [(NH lo w u v (M : Int) (N : Int) (q.1)), (NH lo w u v (M : Int) (N : Int) (q.2.1)), (NH lo w u v (M : Int) (N : Int) (q.2.2.1)), (NH lo w u v (M : Int) (N : Int) (q.2.2.2.1)), (Is (.bool q.2.2.2.2))])))] : Bxs)[3]? = some _ from rfl))⟩, S4.still he mm (List.mem_of_getElem? (show ([(2, (.box 24 (ZH lo w u v (M : Int) (N : Int) ((M : Int))))), (3, (.box 24 (ZH lo w u v (M : Int) (N : Int) ((N : Int))))), (4, (.box 24 (Is (.agg #[.bool false, .slice none 0 0])))), (5, (.box 24 (Is (.agg #[.bool false, .slice none 0 0])))), (6, (.box 68 (SF [(NH lo w u v (M : Int) (N : Int) (q.1)), (NH lo w u v (M : Int) (N : Int) (q.2.1)), (NH lo w u v (M : Int) (N : Int) (q.2.2.1)), (NH lo w u v (M : Int) (N : Int) (q.2.2.2.1)), (Is (.bool q.2.2.2.2))])))] : Bxs)[3]? = some _ from rfl)) (fun b hb2 hs => by subst hs; exact absurd (S4.sep _ (List.mem_of_getElem? (show ([(2, (.box 24 (ZH lo w u v (M : Int) (N : Int) ((M : Int))))), (3, (.box 24 (ZH lo w u v (M : Int) (N : Int) ((N : Int))))), (4, (.box 24 (Is (.agg #[.bool false, .slice none 0 0])))), (5, (.box 24 (Is (.agg #[.bool false, .slice none 0 0])))), (6, (.box 68 (SF [(NH lo w u v (M : Int) (N : Int) (q.1)), (NH lo w u v (M : Int) (N : Int) (q.2.1)), (NH lo w u v (M : Int) (N : Int) (q.2.2.1)), (NH lo w u v (M : Int) (N : Int) (q.2.2.2.1)), (Is (.bool q.2.2.2.2))])))] : Bxs)[3]? = some _ from rfl)) _ (List.mem_of_getElem? (show ([(2, (.box 24 (ZH lo w u v (M : Int) (N : Int) ((M : Int))))), (3, (.box 24 (ZH lo w u v (M : Int) (N : Int) ((N : Int))))), (4, (.box 24 (Is (.agg #[.bool false, .slice none 0 0])))), (5, (.box 24 (Is (.agg #[.bool false, .slice none 0 0])))), (6, (.box 68 (SF [(NH lo w u v (M : Int) (N : Int) (q.1)), (NH lo w u v (M : Int) (N : Int) (q.2.1)), (NH lo w u v (M : Int) (N : Int) (q.2.2.1)), (NH lo w u v (M : Int) (N : Int) (q.2.2.2.1)), (Is (.bool q.2.2.2.2))])))] : Bxs)[4]? = some _ from rfl)) _ hb2 (by show vblock (a4.eval (.tmp 6)) = _; rw [p6]; rfl)) (show ¬ (5 : Nat) = 6 by decide))⟩
      · exact ⟨⟨_, (List.mem_of_getElem? (show ([(2, (.box 24 (ZH lo w u v (M : Int) (N : Int) ((M : Int))))), (3, (.box 24 (ZH lo w u v (M : Int) (N : Int) ((N : Int))))), (4, (.box 24 (Is (.agg #[.bool false, .slice none 0 0])))), (5, (.box 24 (Is (.agg #[.bool false, .slice none 0 0])))), (6, (.box 68 (SF [(NH lo w u v (M : Int) (N : Int) (q.1)), (NH lo w u v (M : Int) (N : Int) (q.2.1)), (NH lo w u v (M : Int) (N : Int) (q.2.2.1)), (NH lo w u v (M : Int) (N : Int) (q.2.2.2.1)), (Is (.bool q.2.2.2.2))])))] : Bxs)[4]? = some _ from rfl))⟩, g, u', p6, B6, y1, y2⟩
    )
    replace S5 := (S5.put (d := 20) (v := .tuple #[]) (φ := fun _ _ => True) (by decide) (fun _ _ => trivial) [(2, (.box 24 (ZH lo w u v (M : Int) (N : Int) ((M : Int))))), (3, (.box 24 (ZH lo w u v (M : Int) (N : Int) ((N : Int))))), (4, (.box 24 (Is (.agg #[.bool false, .slice none 0 0])))), (5, (.box 24 (Is (.agg #[.bool false, .slice none 0 0])))), (6, (.box 68 (SF [(NH lo w u v (M : Int) (N : Int) A'), (NH lo w u v (M : Int) (N : Int) b'), (NH lo w u v (M : Int) (N : Int) X'), (NH lo w u v (M : Int) (N : Int) Y'), (Is (.bool mn'))])))] [(19, (Is (.bool true)))] (by simp) (by simp)).drop1'
    refine wpList_nil ?_
    obtain ⟨a5, W5, B5, e1, e2, e3⟩ : ∃ a W B, a4.put (some 20) (.tuple #[]) = a ∧ W' = W ∧ B4 = B := ⟨_, _, _, rfl, rfl, rfl⟩
    rw [show a4.put _ (.tuple #[]) = a5 from e1, e2]
    rw [e1, e2, e3] at S5
    replace S5 : Sta w 38 [(2, (.box 24 (ZH lo w u v (M : Int) (N : Int) ((M : Int))))), (3, (.box 24 (ZH lo w u v (M : Int) (N : Int) ((N : Int))))), (4, (.box 24 (Is (.agg #[.bool false, .slice none 0 0])))), (5, (.box 24 (Is (.agg #[.bool false, .slice none 0 0])))), (6, (.box 68 (SF [(NH lo w u v (M : Int) (N : Int) A'), (NH lo w u v (M : Int) (N : Int) b'), (NH lo w u v (M : Int) (N : Int) X'), (NH lo w u v (M : Int) (N : Int) Y'), (Is (.bool mn'))])))] [(19, (Is (.bool true)))] B5 a5 W5 := S5
    refine inBlkN ?_
    refine thenN ?_
    exact ⟨(A', b', X', Y', mn'), ⟨⟨hz', hlt2, Nat.le_trans hle2 hcond.2.2.1, hX'⟩, B5, S5.sub [0, 1, 2, 3, 4] []⟩, hlt⟩

end Go.Proofs.YtblmlhhicpomkaaDoor

/-
  Plain mathematics, no Go: the document's Bezout.
-/
namespace Go.Proofs.YtblmlhhicpomkaaDoor
open Go Go.RowKit Nt
set_option linter.unusedVariables false

/-- What the document's loop keeps. -/
def RB (A B : Int) (q : Int × Int × Int × Int) : Prop :=
  q = (A, B, 1, 0) ∨ ∃ (a b X Y : Nat) (mn : Bool), Bz B.natAbs (rm A B).natAbs a b X Y mn ∧ b < a ∧ X ≤ B.natAbs ∧ a ≤ B.natAbs ∧ q = (B.sign * (a : Int), B.sign * (b : Int), (if mn then -(X : Int) else (X : Int)), (if mn then (Y : Int) else -(Y : Int)))
theorem sign_cases {B : Int} (hB : B ≠ 0) : (B.sign = 1 ∧ 0 < B) ∨ (B.sign = -1 ∧ B < 0) := by
  rcases Int.lt_trichotomy B 0 with h | h | h
  · exact .inr ⟨Int.sign_eq_neg_one_of_neg h, h⟩
  · exact absurd h hB
  · exact .inl ⟨Int.sign_eq_one_of_pos h, h⟩
theorem RB.next {A B : Int} {q : Int × Int × Int × Int} (hB : B ≠ 0) (h : RB A B q) (hs : q.2.1 ≠ 0) : RB A B (q.2.1, rm q.1 q.2.1, q.2.2.2, q.2.2.1 - fl q.1 q.2.1 * q.2.2.2) ∧ (rm q.1 q.2.1).natAbs < q.2.1.natAbs := by
  have rb := rm_bounds (A := q.1) hs
  have hlt : (rm q.1 q.2.1).natAbs < q.2.1.natAbs := by
    rcases Int.lt_trichotomy q.2.1 0 with h | h | h
    · have := rb.2.2 h; omega
    · exact absurd h hs
    · have := rb.2.1 h; omega
  refine ⟨?_, hlt⟩
  rcases h with rfl | ⟨a, b, X, Y, mn, hz, hba, hX, ha, rfl⟩
  · refine .inr ⟨B.natAbs, (rm A B).natAbs, 0, 1, true, Bz.start (by omega), hlt, Nat.zero_le _, Nat.le_refl _, ?_⟩
    have rb := rm_bounds (A := A) hB
    rcases sign_cases hB with ⟨e, hp⟩ | ⟨e, hp⟩
    · have := rb.2.1 hp
      simp only [e, Prod.mk.injEq]
      refine ⟨by omega, by omega, by simp, by simp⟩
    · have := rb.2.2 hp
      simp only [e, Prod.mk.injEq]
      refine ⟨by omega, by omega, by simp, by simp⟩
  · dsimp only at hs hlt rb ⊢
    have hb : b ≠ 0 := by rintro rfl; simp at hs
    have em := Nat.div_add_mod a b
    have hml := Nat.mod_lt a (Nat.pos_of_ne_zero hb)
    have emi : (a : Int) = ((a / b : Nat) : Int) * (b : Int) + ((a % b : Nat) : Int) := by
      have : ((b * (a / b) + a % b : Nat) : Int) = (a : Int) := by rw [em]
      rw [Int.natCast_add, Int.natCast_mul, Int.mul_comm] at this
      exact this.symm
    have key : fl (B.sign * (a : Int)) (B.sign * (b : Int)) = ((a / b : Nat) : Int) ∧ rm (B.sign * (a : Int)) (B.sign * (b : Int)) = B.sign * ((a % b : Nat) : Int) := by
      rcases sign_cases hB with ⟨e, hp⟩ | ⟨e, hp⟩
      · rw [e]
        refine fl_unique (by omega) (by rw [Int.one_mul, Int.one_mul, Int.one_mul]; exact emi) (fun _ => by omega) (fun h => by omega)
      · rw [e]
        refine fl_unique (by omega) ?_ (fun h => by omega) (fun _ => by omega)
        rw [emi]
        generalize ((a / b : Nat) : Int) = u
        generalize ((a % b : Nat) : Int) = v
        grind
    rw [key.1, key.2]
    refine .inr ⟨b, a % b, Y, X + a / b * Y, !mn, hz.one hb, hml, hz.y_le, by omega, ?_⟩
    simp only [Prod.mk.injEq, true_and]
    rw [Int.natCast_add, Int.natCast_mul]
    cases mn
    · refine ⟨by simp, ?_⟩
      simp
      generalize ((a / b : Nat) : Int) = u
      grind
    · refine ⟨by simp, ?_⟩
      simp
      generalize ((a / b : Nat) : Int) = u
      grind
theorem RB.size {A B : Int} {q : Int × Int × Int × Int} (hB : B ≠ 0) (h : RB A B q) : q.1.natAbs ≤ A.natAbs + B.natAbs ∧ q.2.1.natAbs ≤ B.natAbs ∧ q.2.2.1.natAbs ≤ B.natAbs ∧ q.2.2.2.natAbs ≤ B.natAbs := by
  rcases h with rfl | ⟨a, b, X, Y, mn, hz, hba, hX, ha, rfl⟩
  · dsimp only
    omega
  · have hy := hz.y_le
    dsimp only
    rcases sign_cases hB with ⟨e, hp⟩ | ⟨e, hp⟩
    · rw [e]
      cases mn <;> simp <;> omega
    · rw [e]
      cases mn <;> simp <;> omega
theorem RB.last {A B : Int} {q : Int × Int × Int × Int} (hB : B ≠ 0) (h : RB A B q) (hs : q.2.1 = 0) : ∃ Y : Nat, gz A B * Y = B.natAbs ∧ Y ≠ 0 ∧ (q.1 < 0 ∨ 0 < q.1) ∧ rm (if q.1 < 0 then -q.2.2.1 else q.2.2.1) (Y : Int) = bzX A B := by
  rcases h with rfl | ⟨a, b, X, Y, mn, hz, hba, hX, ha, rfl⟩
  · exact absurd hs hB
  · have hb : b = 0 := by
      rcases sign_cases hB with ⟨e, hp⟩ | ⟨e, hp⟩ <;> (dsimp only at hs; rw [e] at hs; omega)
    subst hb
    obtain ⟨h1, h2, k, h3⟩ := hz.last
    have rb := rm_bounds (A := A) hB
    have eg : Nat.gcd B.natAbs (rm A B).natAbs = gz A B := by
      unfold gz
      apply Nat.dvd_antisymm
      · refine Nat.dvd_gcd ?_ (Nat.gcd_dvd_left _ _)
        rw [← Int.ofNat_dvd_left]
        have hd : ((Nat.gcd B.natAbs (rm A B).natAbs : Nat) : Int) ∣ fl A B * B + rm A B := Int.dvd_add (Int.dvd_trans (Int.ofNat_dvd_left.2 (Nat.gcd_dvd_left _ _)) (Int.dvd_mul_left _ _)) (Int.ofNat_dvd_left.2 (Nat.gcd_dvd_right _ _))
        rw [← rb.1] at hd
        exact hd
      · refine Nat.dvd_gcd (Nat.gcd_dvd_right _ _) ?_
        have u1 : ((Nat.gcd A.natAbs B.natAbs : Nat) : Int) ∣ A := Int.ofNat_dvd_left.2 (Nat.gcd_dvd_left _ _)
        have u2 : ((Nat.gcd A.natAbs B.natAbs : Nat) : Int) ∣ fl A B * B := Int.dvd_trans (Int.ofNat_dvd_left.2 (Nat.gcd_dvd_right _ _)) (Int.dvd_mul_left _ _)
        have u3 : rm A B = A - fl A B * B := rfl
        rw [← Int.ofNat_dvd_left, u3]
        exact Int.dvd_sub u1 u2
    rw [eg] at h1 h2 h3
    have hY : Y ≠ 0 := by
      rintro rfl
      simp at h2
      omega
    have hga : 0 < a := by omega
    refine ⟨Y, h2, hY, ?_, ?_⟩
    · dsimp only
      rcases sign_cases hB with ⟨e, hp⟩ | ⟨e, hp⟩ <;> rw [e] <;> omega
    · refine (bzX_eq hB (bz_least hB h2 ?_)).symm
      have u3 : rm A B = A - fl A B * B := rfl
      dsimp only
      generalize (if mn = true then -(X : Int) else (X : Int)) = x at *
      rcases sign_cases hB with ⟨e, hp⟩ | ⟨e, hp⟩
      · have := rb.2.1 hp
        rw [e, if_neg (by omega)]
        refine ⟨k - x * fl A B, ?_⟩
        rw [h3, show (((rm A B).natAbs : Nat) : Int) = A - fl A B * B from by omega, show ((B.natAbs : Nat) : Int) = B from by omega]
        generalize fl A B = f
        clear h1 h2 h3 this u3 rb hz eg
        grind
      · have := rb.2.2 hp
        rw [e, if_pos (by omega)]
        refine ⟨-k - x * -fl A B, ?_⟩
        rw [h3, show (((rm A B).natAbs : Nat) : Int) = -(A - fl A B * B) from by omega, show ((B.natAbs : Nat) : Int) = -B from by omega]
        generalize fl A B = f
        clear h1 h2 h3 this u3 rb hz eg
        grind
theorem fl_ex {g Y b : Nat} (hg : g ≠ 0) (h : g * Y = b) : fl (b : Int) (g : Int) = (Y : Int) := by
  refine (fl_unique (r := 0) (by omega) ?_ (fun _ => by omega) (fun _ => by omega)).1
  rw [← h, Int.natCast_mul, Int.mul_comm]
  omega
end Go.Proofs.YtblmlhhicpomkaaDoor
