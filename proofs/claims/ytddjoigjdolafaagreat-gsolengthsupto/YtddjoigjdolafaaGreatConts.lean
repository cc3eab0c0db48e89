/-
 The calls of nat and zint, and of the laws, in the form that the logic of statements takes.
-/
import Derived.Test.YtddjoigjdolafaaGreatSetQ
import Derived.Test.YtddjoigjdolafaaGreatSetI
import Derived.Test.YtddjoigjdolafaaGreatSetP
import Derived.Test.YtddjoigjdolafaaGreatSetX
import Derived.Test.YtddjoigjdolafaaGreatSetZ
import Derived.Test.YtddjoigjdolafaaGreatPower
import Derived.Test.YtddjoigjdolafaaGreatSetU
namespace Go.Proofs.YtddjoigjdolafaaGreat
open Go Go.RowKit Nt
set_option linter.unusedSimpArgs false
set_option linter.unusedVariables false
set_option maxRecDepth 20000

theorem dl_mul {a b : Int} {k l : Nat} (ha : (digs a.natAbs).length ≤ k) (hb : (digs b.natAbs).length ≤ l) : (digs (a * b).natAbs).length ≤ k + l := by rw [Int.natAbs_mul]; exact digs_mul_len ha hb
theorem dl_add {a b : Int} {k : Nat} (ha : (digs a.natAbs).length ≤ k) (hb : (digs b.natAbs).length ≤ k) : (digs (a + b).natAbs).length ≤ k + 1 := Nat.le_trans (digs_length_mono (by omega)) (digs_add_len ha hb)
theorem sg_dl {s : Bool} {w : World} {p : Option Addr} {n c : Nat} {xs : List Nat} (h : Sl w p n c xs) : (digs (sg s (val xs)).natAbs).length ≤ n := by rw [sg_abs]; exact h.dl

theorem res_nn {w w' : World} {r : Option Addr} {c m : Nat} (h : Res w w' r c m) : NN m w.heap.size (.slice r (digs m).length c) w' := ⟨r, c, rfl, h.sl, fun b o e => (h.own b o e).2.1⟩
theorem nm_zn {w : World} {b : Bool} {L : Nat} {D : List Nat} {z : Int} {r : Option Addr} {c lo : Nat} (h : Nm b L D z) (hs : Sl w r L c D) (hf : ∀ b o, r = some ⟨b, o, none⟩ → lo ≤ b) : ZN z lo (.agg #[.bool b, .slice r L c]) w := by
 obtain ⟨rfl, rfl, rfl⟩ := h
 exact ⟨r, c, rfl, hs, hf⟩

theorem g_bits {x k : Nat} (hk : k ≤ 288230376151711743) : ∀ w u, Nv x k u w → Calls Tryz.prog 59 #[u] w (Gives (IS (.int .i64 (Go.bitLen x : Nat))) w) := by
 rintro w u ⟨p, n, c, xs, rfl, h, rfl, hn⟩
 refine (bits_c w p n c xs h (by omega)).mono ?_
 rintro e w' ⟨rfl, rfl⟩
 exact ⟨_, rfl, Below.refl _ _, rfl⟩
theorem g_div {x y ka kb : Nat} (hy : y ≠ 0) (hk : ka + 1 ≤ 70368744177664) : ∀ w u v, Nv x ka u w → Nv y kb v w → Calls Tryz.prog 109 #[u, v] w (Gives (THREE (NN (x / y)) (NN (x % y)) (IS (.int .i64 0))) w) := by
 rintro w u v ⟨p, n, c, xs, rfl, h, rfl, hn⟩ ⟨q, m, d, ys, rfl, h', rfl, hm⟩
 refine (div_c w p q n c m d xs ys h h' hy (by omega)).mono ?_
 rintro e w' ⟨r, cr, s, cs, rfl, R1, R2, _⟩
 exact ⟨_, rfl, R1.below, _, _, _, rfl, res_nn R1, res_nn R2, rfl⟩
/-! zint. -/
theorem g_signed {s : Bool} {m lo : Nat} : Makes2 63 (Is (.bool s)) (NN m lo) (ZN (sg s m) lo) := by
 rintro w u v hu ⟨r, c, rfl, hs, hf⟩
 obtain rfl : u = _ := hu
 refine (signed_c w s r _ c (Nat.le_trans hs.cap hs.max)).mono ?_
 rintro e w' ⟨rfl, hb⟩
 refine ⟨_, rfl, hb, fun W _ h2 => ?_⟩
 obtain ⟨r', c', e', hs', hf'⟩ := h2
 simp only [Value.slice.injEq] at e'
 obtain ⟨rfl, _, rfl⟩ := e'
 exact ⟨r, c, by rw [← sg_ng, sg_abs], by rw [sg_abs]; exact hs', hf'⟩
theorem g_zof (n : Int) (h1 : -9223372036854775808 ≤ n) (h2 : n < 9223372036854775808) : ∀ w u, Is (.int .i64 n) u w → Calls Tryz.prog 26 #[u] w (Gives (ZN n) w) := fun w u e => by
 obtain rfl : u = _ := e
 refine (zof_c w n h1 h2).mono ?_
 rintro e w' ⟨r, cr, rfl, Z⟩
 exact za_gives Z
theorem g_zadd {A B : Int} {ka kb : Nat} (hk : ka ≤ 70368744177663) (hk' : kb ≤ 70368744177663) : ∀ w u v, Zv A ka u w → Zv B kb v w → Calls Tryz.prog 35 #[u, v] w (Gives (ZN (A + B)) w) := by
 rintro w u v ⟨s, p, n, c, xs, rfl, h, rfl, hn⟩ ⟨t, q, m, d, ys, rfl, h', rfl, hm⟩
 refine (zadd_c w s t p q n c m d xs ys h h' (by omega) (by omega)).mono ?_
 rintro e w' ⟨r, cr, rfl, Z⟩
 exact za_gives Z
theorem g_zsub {A B : Int} {ka kb : Nat} (hk : ka ≤ 70368744177663) (hk' : kb ≤ 70368744177663) : ∀ w u v, Zv A ka u w → Zv B kb v w → Calls Tryz.prog 85 #[u, v] w (Gives (ZN (A - B)) w) := by
 rintro w u v ⟨s, p, n, c, xs, rfl, h, rfl, hn⟩ ⟨t, q, m, d, ys, rfl, h', rfl, hm⟩
 refine (zsub_c w s t p q n c m d xs ys h h' (by omega) (by omega)).mono ?_
 rintro e w' ⟨r, cr, rfl, Z⟩
 exact za_gives Z
theorem g_zmul {A B : Int} {ka kb : Nat} (hk : ka + kb ≤ 70368744177664) : ∀ w u v, Zv A ka u w → Zv B kb v w → Calls Tryz.prog 36 #[u, v] w (Gives (ZN (A * B)) w) := by
 rintro w u v ⟨s, p, n, c, xs, rfl, h, rfl, hn⟩ ⟨t, q, m, d, ys, rfl, h', rfl, hm⟩
 refine (zmul_c w s t p q n c m d xs ys h h' (by omega)).mono ?_
 rintro e w' ⟨r, cr, rfl, Z⟩
 exact za_gives Z

end Go.Proofs.YtddjoigjdolafaaGreat
