/-
  The calls of nat and zint, and of the laws, in the form that the logic of statements takes.
-/
import Derived.Test.YtoplejeljmpcpaaDoorSetQ
import Derived.Test.YtoplejeljmpcpaaDoorZFloor
import Derived.Test.YtoplejeljmpcpaaDoorSetP
import Derived.Test.YtoplejeljmpcpaaDoorSetX
import Derived.Test.YtoplejeljmpcpaaDoorSetZ
import Derived.Test.YtoplejeljmpcpaaDoorPower
import Derived.Test.YtoplejeljmpcpaaDoorSetU
namespace Go.Proofs.YtoplejeljmpcpaaDoor
open Go Go.RowKit Nt
set_option linter.unusedSimpArgs false
set_option linter.unusedVariables false
set_option maxRecDepth 20000

/-! How long numbers are. -/
theorem dl_mono {a b : Int} {k : Nat} (h : a.natAbs ≤ b.natAbs) (hb : (digs b.natAbs).length ≤ k) : (digs a.natAbs).length ≤ k := Nat.le_trans (digs_length_mono h) hb
theorem dl_mul {a b : Int} {k l : Nat} (ha : (digs a.natAbs).length ≤ k) (hb : (digs b.natAbs).length ≤ l) : (digs (a * b).natAbs).length ≤ k + l := by rw [Int.natAbs_mul]; exact digs_mul_len ha hb
theorem dl_add {a b : Int} {k : Nat} (ha : (digs a.natAbs).length ≤ k) (hb : (digs b.natAbs).length ≤ k) : (digs (a + b).natAbs).length ≤ k + 1 := Nat.le_trans (digs_length_mono (by omega)) (digs_add_len ha hb)
theorem dl_sub {a b : Int} {k : Nat} (ha : (digs a.natAbs).length ≤ k) (hb : (digs b.natAbs).length ≤ k) : (digs (a - b).natAbs).length ≤ k + 1 := Nat.le_trans (digs_length_mono (m := a.natAbs + b.natAbs) (by omega)) (digs_add_len ha hb)
theorem dl_small {a : Int} (h : a.natAbs < 4294967296) : (digs a.natAbs).length ≤ 1 := digs_length_le (by omega)
theorem sg_dl {s : Bool} {w : World} {p : Option Addr} {n c : Nat} {xs : List Nat} (h : Sl w p n c xs) : (digs (sg s (val xs)).natAbs).length ≤ n := by rw [sg_abs]; exact h.dl

/-- A number with these limbs, noughts at the end and all, in a new row. -/
def ZO (s : Bool) (n : Nat) (xs : List Nat) : Nat → Pr := fun lo v w => ∃ r c, v = .agg #[.bool s, .slice r n c] ∧ Sl w r n c xs ∧ ∀ b o, r = some ⟨b, o, none⟩ → lo ≤ b
theorem fresh_zo (s : Bool) (n : Nat) (xs : List Nat) : Fresh (ZO s n xs) :=
  ⟨fun lo lo' v w hl ⟨r, c, e, hs, hf⟩ => ⟨r, c, e, hs, fun b o h => Nat.le_trans hl (hf b o h)⟩,
   fun lo v w w' B hB ⟨r, c, e, hs, hf⟩ ev => ⟨r, c, e, sl_ev hs (fun b o e2 _ hb => by have := hB b hb; have := hf b o e2; omega) ev, hf⟩⟩
theorem zo_zv {s : Bool} {n : Nat} {xs : List Nat} {lo k : Nat} {A : Int} (hA : sg s (val xs) = A) (hk : n ≤ k) : ∀ v w, ZO s n xs lo v w → Zv A k v w := fun v w ⟨r, c, e, h, _⟩ => ⟨s, r, n, c, xs, e, h, hA, hk⟩
theorem shp_zo {s : Bool} {n : Nat} {xs : List Nat} {lo : Nat} : Shp 2 (ZO s n xs lo) := fun u w ⟨r, c, e, _⟩ => ⟨_, e, rfl, by simp [Value.oneCell']⟩

theorem res_nn {w w' : World} {r : Option Addr} {c m : Nat} (h : Res w w' r c m) : NN m w.heap.size (.slice r (digs m).length c) w' := ⟨r, c, rfl, h.sl, fun b o e => (h.own b o e).2.1⟩
theorem ans_nn {w w' : World} {r : Option Addr} {c m : Nat} (h : Ans w w' r c m) : NN m w.heap.size (.slice r (digs m).length c) w' := ⟨r, c, rfl, h.sl, h.fresh⟩
theorem nm_zn {w : World} {b : Bool} {L : Nat} {D : List Nat} {z : Int} {r : Option Addr} {c lo : Nat} (h : Nm b L D z) (hs : Sl w r L c D) (hf : ∀ b o, r = some ⟨b, o, none⟩ → lo ≤ b) : ZN z lo (.agg #[.bool b, .slice r L c]) w := by
  obtain ⟨rfl, rfl, rfl⟩ := h
  exact ⟨r, c, rfl, hs, hf⟩

/-- A row with these limbs, noughts and all, in new memory. -/
def NR (xs : List Nat) : Nat → Pr := fun lo v w => ∃ r c, v = .slice r xs.length c ∧ Sl w r xs.length c xs ∧ ∀ b o, r = some ⟨b, o, none⟩ → lo ≤ b
theorem fresh_nr (xs : List Nat) : Fresh (NR xs) :=
  ⟨fun lo lo' v w hl ⟨r, c, e, hs, hf⟩ => ⟨r, c, e, hs, fun b o h => Nat.le_trans hl (hf b o h)⟩,
   fun lo v w w' B hB ⟨r, c, e, hs, hf⟩ ev => ⟨r, c, e, sl_ev hs (fun b o e2 _ hb => by have := hB b hb; have := hf b o e2; omega) ev, hf⟩⟩
theorem nr_nv {xs : List Nat} {lo k m : Nat} (hm : val xs = m) (hk : xs.length ≤ k) : ∀ v w, NR xs lo v w → Nv m k v w := fun v w ⟨r, c, e, h, _⟩ => ⟨_, _, _, _, e, h, hm, hk⟩
theorem nr_len {xs : List Nat} {lo : Nat} : ∀ v w, NR xs lo v w → ∃ p c, v = .slice p xs.length c := fun v w ⟨r, c, e, _⟩ => ⟨_, _, e⟩
theorem bs_nr {k lo : Nat} : ∀ v w, BS k lo v w → NR [k] lo v w := fun v w ⟨h0, ⟨g, c, ys, e1, e2, e3, e4, e5⟩, h2⟩ => by
  obtain rfl : ys = U [k] := e5
  refine ⟨some ⟨g, 0, none⟩, c, e1, ?_, fun b o e => ?_⟩
  · exact ⟨rfl, e2.2.1, e2.2.2, (fun e => by cases e), Ok.cons h0 Ok.nil, Blk.limbs e3⟩
  · rw [e1] at h2
    simp only [Option.some.injEq, Addr.mk.injEq] at e
    rw [← e.1]
    exact h2 g rfl

theorem row_nr {lo n : Nat} {xs : List Nat} (ho : Ok xs) : ∀ v w ys, World.ownsRow w lo 46 1 v n ys → EqL (U xs) ys w → NR xs lo v w := fun v w ys h e => by
  obtain rfl : ys = U xs := e
  have hl : xs.length = n := by have := h.1; rw [U_length] at this; omega
  subst hl
  have hw : Own w lo v xs := h
  obtain ⟨p, c, rfl, hs⟩ := hw.sl ho
  refine ⟨p, c, rfl, hs, fun b o e => ?_⟩
  subst e
  exact (World.ownsRow.lt h b rfl).1

/-! nat. -/
theorem g_trim {p : Option Addr} {n c : Nat} {xs : List Nat} : Makes1 46 (Nx p n c xs) (Nx p (digs (val xs)).length c (digs (val xs))) := by
  rintro w u ⟨rfl, h⟩
  refine (trim_s w p n c _ xs rfl h).mono ?_
  rintro e w' ⟨rfl, rfl⟩
  exact ⟨_, rfl, Below.refl _ _, fun W ⟨_, h2⟩ => ⟨rfl, h2.digs⟩⟩
theorem g_bits {x k : Nat} (hk : k ≤ 288230376151711743) : ∀ w u, Nv x k u w → Calls Tryd.prog 32 #[u] w (Gives (IS (.int .i64 (Go.bitLen x : Nat))) w) := by
  rintro w u ⟨p, n, c, xs, rfl, h, rfl, hn⟩
  refine (bits_c w p n c xs h (by omega)).mono ?_
  rintro e w' ⟨rfl, rfl⟩
  exact ⟨_, rfl, Below.refl _ _, rfl⟩
theorem g_norm {x k : Nat} (hk : k ≤ 70368744177664) : ∀ w u, Nv x k u w → Calls Tryd.prog 45 #[u] w (Gives (NN x) w) := by
  rintro w u ⟨p, n, c, xs, rfl, h, rfl, hn⟩
  refine (norm_n w p n c _ h.num k hn hk).mono ?_
  rintro e w' ⟨r, cr, rfl, R, _⟩
  exact ⟨_, rfl, R.below, res_nn R⟩
theorem g_down {x k z : Nat} (hk : k ≤ 70368744177664) (hz : z ≤ 9223372036854775807) : ∀ w u v, Nv x k u w → Is (.int .i64 (z : Nat)) v w → Calls Tryd.prog 60 #[u, v] w (Gives (NN (x / 2 ^ z)) w) := by
  rintro w u v ⟨p, n, c, xs, rfl, h, rfl, hn⟩ hv
  obtain rfl : v = _ := hv
  have P := down_c w p n c xs (z : Int) (z / 32) (z % 32) h (by omega) (by omega) (by omega) (by omega)
  rw [show 32 * (z / 32) + z % 32 = z from by omega] at P
  refine P.mono ?_
  rintro e w' ⟨r, cr, rfl, R⟩
  exact ⟨_, rfl, R.below, res_nn R⟩
theorem g_add {x y ka kb : Nat} (hk : ka ≤ 70368744177663) (hk' : kb ≤ 70368744177663) : ∀ w u v, Nv x ka u w → Nv y kb v w → Calls Tryd.prog 35 #[u, v] w (Gives (NN (x + y)) w) := by
  rintro w u v ⟨p, n, c, xs, rfl, h, rfl, hn⟩ ⟨q, m, d, ys, rfl, h', rfl, hm⟩
  refine (add_c w p q n c m d xs ys h h' (by omega) (by omega)).mono ?_
  rintro e w' ⟨r, cr, rfl, R⟩
  exact ⟨_, rfl, R.below, res_nn R⟩
theorem g_sub {x y ka kb : Nat} (hk : ka ≤ 70368744177664) (hle : y ≤ x) : ∀ w u v, Nv x ka u w → Nv y kb v w → Calls Tryd.prog 36 #[u, v] w (Gives (TWO (NN (x - y)) (IS (.int .i64 0))) w) := by
  rintro w u v ⟨p, n, c, xs, rfl, h, rfl, hn⟩ ⟨q, m, d, ys, rfl, h', rfl, hm⟩
  refine (sub_c w p q n c m d xs ys h h' (by omega) hle).mono ?_
  rintro e w' ⟨r, cr, rfl, R⟩
  exact ⟨_, rfl, R.below, _, _, rfl, res_nn R, rfl⟩
theorem g_mul {x y ka kb : Nat} (hk : ka + kb ≤ 70368744177664) : ∀ w u v, Nv x ka u w → Nv y kb v w → Calls Tryd.prog 39 #[u, v] w (Gives (NN (x * y)) w) := by
  rintro w u v ⟨p, n, c, xs, rfl, h, rfl, hn⟩ ⟨q, m, d, ys, rfl, h', rfl, hm⟩
  refine (mul_c w p q n c m d xs ys h h' (by omega)).mono ?_
  rintro e w' ⟨r, cr, rfl, R⟩
  exact ⟨_, rfl, R.below, res_nn R⟩
theorem g_cmp {x y ka kb : Nat} : ∀ w u v, Nv x ka u w → Nv y kb v w → Calls Tryd.prog 38 #[u, v] w (Gives (IS (.int .i64 (cmpN x y))) w) := by
  rintro w u v ⟨p, n, c, xs, rfl, h, rfl, hn⟩ ⟨q, m, d, ys, rfl, h', rfl, hm⟩
  refine (cmp_s w p q n c m d xs ys h h').mono ?_
  rintro e w' ⟨rfl, nq, rfl⟩
  exact ⟨_, rfl, below_drewN' (Below.refl _ _) nq, rfl⟩
theorem g_div {x y ka kb : Nat} (hy : y ≠ 0) (hk : ka + 1 ≤ 70368744177664) : ∀ w u v, Nv x ka u w → Nv y kb v w → Calls Tryd.prog 59 #[u, v] w (Gives (THREE (NN (x / y)) (NN (x % y)) (IS (.int .i64 0))) w) := by
  rintro w u v ⟨p, n, c, xs, rfl, h, rfl, hn⟩ ⟨q, m, d, ys, rfl, h', rfl, hm⟩
  refine (div_c w p q n c m d xs ys h h' hy (by omega)).mono ?_
  rintro e w' ⟨r, cr, s, cs, rfl, R1, R2, _⟩
  exact ⟨_, rfl, R1.below, _, _, _, rfl, res_nn R1, res_nn R2, rfl⟩
theorem div_zero (w : World) (p q : Option Addr) (n c m d : Nat) (xs ys : List Nat) (h1 : Sl w p n c xs) (h2 : Sl w q m d ys) (h0 : val ys = 0) :
    Calls Tryd.prog 59 #[.slice p n c, .slice q m d] w fun e w' => e = .returned (.tuple #[.slice none 0 0, .slice none 0 0, .int .i64 11]) ∧ w' = w := by
  have T1 := hid (trim_s w p n c _ xs rfl h1)
  have T2 := hid (trim_s w q m d 0 ys (by rw [h0]; rfl) h2)
  clear h0 h1 h2
  go_enter Tryd.func59, Tryd.ntmps59
  go_wp2_with fail
  refine T1.out.mono ?_
  rintro e w' ⟨rfl, rfl⟩
  go_wp2_with fail
  refine T2.out.mono ?_
  rintro e w' ⟨rfl, rfl⟩
  go_wp2
  go_ret3
  exact ⟨rfl, rfl⟩
theorem g_div0 {x y ka kb : Nat} (hy : y = 0) : ∀ w u v, Nv x ka u w → Nv y kb v w → Calls Tryd.prog 59 #[u, v] w (Gives (THREE (IS (.slice none 0 0)) (IS (.slice none 0 0)) (IS (.int .i64 11))) w) := by
  rintro w u v ⟨p, n, c, xs, rfl, h, rfl, hn⟩ ⟨q, m, d, ys, rfl, h', rfl, hm⟩
  refine (div_zero w p q n c m d xs ys h h' hy).mono ?_
  rintro e w' ⟨rfl, rfl⟩
  exact ⟨_, rfl, Below.refl _ _, _, _, _, rfl, rfl, rfl, rfl⟩

/-! zint. -/
theorem g_signed {s : Bool} {m lo : Nat} : Makes2 28 (Is (.bool s)) (NN m lo) (ZN (sg s m) lo) := by
  rintro w u v hu ⟨r, c, rfl, hs, hf⟩
  obtain rfl : u = _ := hu
  refine (signed_c w s r _ c (Nat.le_trans hs.cap hs.max)).mono ?_
  rintro e w' ⟨rfl, hb⟩
  refine ⟨_, rfl, hb, fun W _ h2 => ?_⟩
  obtain ⟨r', c', e', hs', hf'⟩ := h2
  simp only [Value.slice.injEq] at e'
  obtain ⟨rfl, _, rfl⟩ := e'
  exact ⟨r, c, by rw [← sg_ng, sg_abs], by rw [sg_abs]; exact hs', hf'⟩
theorem g_zof (n : Int) (h1 : -9223372036854775808 ≤ n) (h2 : n < 9223372036854775808) : ∀ w u, Is (.int .i64 n) u w → Calls Tryd.prog 17 #[u] w (Gives (ZN n) w) := fun w u e => by
  obtain rfl : u = _ := e
  refine (zof_c w n h1 h2).mono ?_
  rintro e w' ⟨r, cr, rfl, Z⟩
  exact za_gives Z
theorem g_zadd {A B : Int} {ka kb : Nat} (hk : ka ≤ 70368744177663) (hk' : kb ≤ 70368744177663) : ∀ w u v, Zv A ka u w → Zv B kb v w → Calls Tryd.prog 16 #[u, v] w (Gives (ZN (A + B)) w) := by
  rintro w u v ⟨s, p, n, c, xs, rfl, h, rfl, hn⟩ ⟨t, q, m, d, ys, rfl, h', rfl, hm⟩
  refine (zadd_c w s t p q n c m d xs ys h h' (by omega) (by omega)).mono ?_
  rintro e w' ⟨r, cr, rfl, Z⟩
  exact za_gives Z
theorem g_zmul {A B : Int} {ka kb : Nat} (hk : ka + kb ≤ 70368744177664) : ∀ w u v, Zv A ka u w → Zv B kb v w → Calls Tryd.prog 19 #[u, v] w (Gives (ZN (A * B)) w) := by
  rintro w u v ⟨s, p, n, c, xs, rfl, h, rfl, hn⟩ ⟨t, q, m, d, ys, rfl, h', rfl, hm⟩
  refine (zmul_c w s t p q n c m d xs ys h h' (by omega)).mono ?_
  rintro e w' ⟨r, cr, rfl, Z⟩
  exact za_gives Z

/-! The laws'. -/
theorem g_own {s : Bool} {p : Option Addr} {n c : Nat} {xs : List Nat} (hc : c ≤ 35184372087808) : ∀ w u, Zx s p n c xs u w → Calls Tryd.prog 6 #[u] w (Gives (ZO s n xs) w) := by
  rintro w u ⟨rfl, h⟩
  refine (own_c w s p n c xs h hc).mono ?_
  rintro e w' ⟨gx, cr, rfl, C⟩
  exact ⟨_, rfl, C.below, _, cr, rfl, C.sl, fun b o e => by simp at e; rw [← e.1]; exact C.fresh⟩
theorem g_eq {z : Int} {lo lo' : Nat} : ∀ w u v, ZN z lo u w → ZN z lo' v w → Calls Tryd.prog 10 #[u, v] w (Gives (IS (.bool true)) w) := by
  rintro w u v ⟨r, c, rfl, h, _⟩ ⟨r', c', rfl, h', _⟩
  refine (eq_c w _ r r' _ c _ c' _ h h').mono ?_
  rintro e w' ⟨rfl, hb⟩
  exact ⟨_, rfl, hb, rfl⟩
theorem g_eq0 : ∀ w u v, Is (.agg #[.bool false, .slice none 0 0]) u w → Is (.agg #[.bool false, .slice none 0 0]) v w → Calls Tryd.prog 10 #[u, v] w (Gives (IS (.bool true)) w) := by
  rintro w u v rfl rfl
  refine (eq_c w _ _ _ _ _ _ _ _ (Sl.none w) (Sl.none w)).mono ?_
  rintro e w' ⟨rfl, hb⟩
  exact ⟨_, rfl, hb, rfl⟩
end Go.Proofs.YtoplejeljmpcpaaDoor
