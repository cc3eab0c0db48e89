import Derived.Test.YtppihbknldmllaaDoorSetA
import Derived.Test.YtppihbknldmllaaDoorAwake
import Derived.Test.YtppihbknldmllaaDoorSetB
import Derived.Deep.RegionHeld3
import Derived.Test.YtppihbknldmllaaDoorCalc
import Derived.Deep.LoopGhost
/-
  Plain mathematics, no Go: many of Euclid's steps at once, by the highest bits (Lehmer): what euclid.Look's loop keeps.
-/
namespace Go.Proofs.YtppihbknldmllaaDoor.Nt

/-- One side of a place of the row: U1 X - V1 Y = x and v2 Y - u2 X = y. -/
structure Sd (X Y x y U1 V1 u2 v2 : Nat) : Prop where
  ex : U1 * X = x + V1 * Y
  ey : v2 * Y = y + u2 * X
/-- The next place, the sides exchanged. -/
theorem Sd.next {X Y x y U1 V1 u2 v2 : Nat} (h : Sd X Y x y U1 V1 u2 v2) : Sd Y X y (x % y) v2 u2 (V1 + x / y * v2) (U1 + x / y * u2) := by
  have hd : y * (x / y) + x % y = x := Nat.div_add_mod x y
  obtain ⟨q, hq⟩ : ∃ q, x / y = q := ⟨_, rfl⟩
  obtain ⟨r, hr⟩ : ∃ r, x % y = r := ⟨_, rfl⟩
  rw [hq, hr] at hd ⊢
  refine ⟨h.ey, ?_⟩
  have e1 := h.ex
  have e2 := h.ey
  have e3 : q * (v2 * Y) = q * (y + u2 * X) := by rw [e2]
  rw [Nat.add_mul, Nat.add_mul, Nat.mul_assoc, Nat.mul_assoc, e3, Nat.mul_add, e1, Nat.mul_comm q y]
  omega

/-- What the loop keeps, on the side whose turn it is: (X, Y) the highest bits of (a, b); the other side's turn: the same with the names exchanged. -/
structure Lk (X Y x y U1 V1 u2 v2 : Nat) : Prop where
  sd : Sd X Y x y U1 V1 u2 v2
  det : U1 * v2 = 1 + u2 * V1

theorem Lk.next {X Y x y U1 V1 u2 v2 : Nat} (h : Lk X Y x y U1 V1 u2 v2) : Lk Y X y (x % y) v2 u2 (V1 + x / y * v2) (U1 + x / y * u2) := by
  refine ⟨h.sd.next, ?_⟩
  have := h.det
  obtain ⟨q, hq⟩ : ∃ q, x / y = q := ⟨_, rfl⟩
  rw [hq, Nat.mul_add, Nat.add_mul, Nat.mul_comm v2 U1, this, Nat.mul_comm u2 V1]
  have e : v2 * (q * u2) = q * v2 * u2 := by rw [Nat.mul_comm q v2, Nat.mul_assoc]
  rw [e]
  omega

/-- Below 0 nothing falls, though bits are cut off: the next rest of the numbers themselves. -/
theorem rest_ok {X Y y u2 v2 K a0 b0 : Nat} (h : v2 * Y = y + u2 * X) (ha : a0 < K) (hu : u2 ≤ y) : u2 * (X * K + a0) ≤ v2 * (Y * K + b0) := by
  have h1 : u2 * a0 ≤ y * K := Nat.mul_le_mul hu (Nat.le_of_lt ha)
  rw [Nat.mul_add, Nat.mul_add, ← Nat.mul_assoc, ← Nat.mul_assoc, h, Nat.add_mul]
  omega
/-- The rests fall. -/
theorem rest_falls {X Y x y U1 V1 u2 v2 K a0 b0 : Nat} (h : Sd X Y x y U1 V1 u2 v2) (hb : b0 < K) (hxy : V1 + v2 + y ≤ x) : (V1 + v2) * (Y * K + b0) ≤ (U1 + u2) * (X * K + a0) := by
  have h1 : (V1 + v2) * b0 ≤ (x - y) * K := Nat.mul_le_mul (by omega) (Nat.le_of_lt hb)
  have e : (U1 + u2) * X = (x - y) + (V1 + v2) * Y := by
    rw [Nat.add_mul, Nat.add_mul, h.ex, h.ey]
    omega
  rw [Nat.mul_add, Nat.mul_add, ← Nat.mul_assoc, ← Nat.mul_assoc, e, Nat.add_mul (x - y) ((V1 + v2) * Y) K]
  omega

/-- The pair behind the loop: a' = V0 b - U0 a and b' = U1 a - V1 b, with the determinant 1: a and b are sums of them, the greatest divisor is the same. -/
theorem pair_back {a b a' b' U0 V0 U1 V1 : Nat} (ea : V0 * b = a' + U0 * a) (eb : U1 * a = b' + V1 * b) (det : U1 * V0 = 1 + U0 * V1) : a = V1 * a' + V0 * b' ∧ b = U1 * a' + U0 * b' := by
  have m1 : V0 * (U1 * a) = V0 * b' + V1 * (V0 * b) := by rw [eb, Nat.mul_add, ← Nat.mul_assoc V0 V1, Nat.mul_comm V0 V1, Nat.mul_assoc]
  have m2 : U1 * (V0 * b) = U1 * a' + U0 * (U1 * a) := by rw [ea, Nat.mul_add, ← Nat.mul_assoc U1 U0, Nat.mul_comm U1 U0, Nat.mul_assoc]
  have d1 : V0 * (U1 * a) = a + U0 * V1 * a := by rw [← Nat.mul_assoc, Nat.mul_comm V0 U1, det, Nat.add_mul, Nat.one_mul]
  have d2 : U1 * (V0 * b) = b + U0 * V1 * b := by rw [← Nat.mul_assoc, det, Nat.add_mul, Nat.one_mul]
  have k1 : V1 * (V0 * b) = V1 * a' + U0 * V1 * a := by rw [ea, Nat.mul_add, ← Nat.mul_assoc V1 U0, Nat.mul_comm V1 U0]
  have k2 : U0 * (U1 * a) = U0 * b' + U0 * V1 * b := by rw [eb, Nat.mul_add, ← Nat.mul_assoc U0 V1]
  constructor
  · rw [d1, k1] at m1
    omega
  · rw [d2, k2] at m2
    omega

theorem pair_gcd {a b a' b' U0 V0 U1 V1 : Nat} (ea : V0 * b = a' + U0 * a) (eb : U1 * a = b' + V1 * b) (det : U1 * V0 = 1 + U0 * V1) : Nat.gcd a' b' = Nat.gcd a b := by
  obtain ⟨e1, e2⟩ := pair_back ea eb det
  apply Nat.dvd_antisymm
  · refine Nat.dvd_gcd ?_ ?_
    · rw [e1]
      exact Nat.dvd_add (Nat.dvd_trans (Nat.gcd_dvd_left a' b') (Nat.dvd_mul_left _ _)) (Nat.dvd_trans (Nat.gcd_dvd_right a' b') (Nat.dvd_mul_left _ _))
    · rw [e2]
      exact Nat.dvd_add (Nat.dvd_trans (Nat.gcd_dvd_left a' b') (Nat.dvd_mul_left _ _)) (Nat.dvd_trans (Nat.gcd_dvd_right a' b') (Nat.dvd_mul_left _ _))
  · refine Nat.dvd_gcd ?_ ?_
    · have h1 : Nat.gcd a b ∣ a' + U0 * a := by rw [← ea]; exact Nat.dvd_trans (Nat.gcd_dvd_right a b) (Nat.dvd_mul_left _ _)
      exact (Nat.dvd_add_iff_left (Nat.dvd_trans (Nat.gcd_dvd_left a b) (Nat.dvd_mul_left _ _))).2 h1
    · have h1 : Nat.gcd a b ∣ b' + V1 * b := by rw [← eb]; exact Nat.dvd_trans (Nat.gcd_dvd_left a b) (Nat.dvd_mul_left _ _)
      exact (Nat.dvd_add_iff_left (Nat.dvd_trans (Nat.gcd_dvd_right a b) (Nat.dvd_mul_left _ _))).2 h1

/-- How great a cofactor may be: its square is not above X. -/
theorem cof_small {X Y x y U1 V1 u2 v2 : Nat} (h : Lk X Y x y U1 V1 u2 v2) (hx : V1 ≤ x) (hv : V1 ≤ v2) : V1 * V1 ≤ X := by
  have e : X = v2 * x + V1 * y := by
    have d := h.det
    have e1 := h.sd.ex
    have e2 := h.sd.ey
    have m1 : v2 * (U1 * X) = v2 * x + V1 * (v2 * Y) := by rw [e1, Nat.mul_add, ← Nat.mul_assoc v2 V1, Nat.mul_comm v2 V1, Nat.mul_assoc]
    have d1 : v2 * (U1 * X) = X + u2 * V1 * X := by rw [← Nat.mul_assoc, Nat.mul_comm v2 U1, d, Nat.add_mul, Nat.one_mul]
    have k1 : V1 * (v2 * Y) = V1 * y + u2 * V1 * X := by rw [e2, Nat.mul_add, ← Nat.mul_assoc V1 u2, Nat.mul_comm V1 u2]
    rw [d1, k1] at m1
    omega
  have := Nat.mul_le_mul hv hx
  rw [e]
  omega
end Go.Proofs.YtppihbknldmllaaDoor.Nt

/-
  The small calls of package euclid: trim, limb.
-/
namespace Go.Proofs.YtppihbknldmllaaDoor
open Go.RowKit Nt
set_option linter.unusedSimpArgs false
set_option linter.unusedVariables false
set_option maxRecDepth 20000

set_option maxHeartbeats 400000 in
theorem etrim_c (w : World) (p : Option Addr) (n c : Nat) (xs : List Nat) (hn : xs.length = n) (hc : n ≤ c) (hm : c ≤ maxLen) (ho : Ok xs) (hx : Limbs w p xs) :
    Calls Tryd.prog 87 #[.slice p n c] w fun e w' => e = .returned (.slice p (digs (val xs)).length c) ∧ w' = w := by
  unfold maxLen at hm
  have HX : Hid (Limbs w p xs) := hx
  have HN : Hid (xs.length = n) := hn
  have HO : Hid (Ok xs) := ho
  clear hx hn ho
  go_enter Tryd.func87, Tryd.ntmps87
  go_wp2
  go_loop [3] (fun i => ∃ k : Nat, k ≤ n ∧ i = .int .i64 k ∧ Hid (∀ j, k ≤ j → j < n → xs.getD j 0 = 0)) (fun i => (intOf i).toNat)
  case atStart => exact ⟨n, Nat.le_refl _, rfl, fun j h1 h2 => by omega⟩
  case round =>
    obtain ⟨k, hk, rfl, HZ⟩ := hrel
    by_cases hlt : 0 < k
    · obtain ⟨b, o, rfl, hcell⟩ := HX.out (k - 1) (by have := HN.out; omega)
      by_cases h0 : xs.getD (k - 1) 0 = 0
      · have hcell' := hcell
        rw [h0] at hcell'
        have H0 : Hid (xs.getD (k - 1) 0 = 0) := h0
        clear h0 hcell
        go_wp2
        go_round
        case rel =>
          refine ⟨k - 1, by omega, by go_num, ?_⟩
          intro j h1 h2
          by_cases e : j = k - 1
          · rw [e]; exact H0.out
          · exact HZ.out j (by omega) h2
        case measure => simp [intOf]; omega
      · obtain ⟨x, hx⟩ : ∃ x, x = xs.getD (k - 1) 0 := ⟨_, rfl⟩
        have H0 : Hid (xs.getD (k - 1) 0 ≠ 0) := h0
        rw [← hx] at hcell h0
        have hb : ((x : Int) == 0) = false := beq_eq_false_iff_ne.2 (by omega)
        clear h0 hx
        go_wp2
        go_ret
        have hl : k = (digs (val xs)).length := by
          have := take_digs HO.out (k := k) (by rw [HN.out]; exact hk) (by rw [HN.out]; exact HZ.out) (Or.inr H0.out)
          rw [← this]; simp [HN.out]; omega
        exact ⟨ret_slice (by simp [Addr.add]) hl rfl, rfl⟩
    · go_wp2
      go_ret
      have hl : k = (digs (val xs)).length := by
        have := take_digs HO.out (k := k) (by rw [HN.out]; exact hk) (by rw [HN.out]; exact HZ.out) (Or.inl (by omega))
        rw [← this]; simp [HN.out]; omega
      exact ⟨ret_slice (by simp [Addr.add]) hl rfl, rfl⟩

theorem etrim_k (w : World) (p : Option Addr) (n c k : Nat) (xs : List Nat) (hk : (digs (val xs)).length = k) (hn : xs.length = n) (hc : n ≤ c) (hm : c ≤ maxLen) (ho : Ok xs) (hx : Limbs w p xs) :
    Calls Tryd.prog 87 #[.slice p n c] w fun e w' => e = .returned (.slice p k c) ∧ w' = w := by
  subst hk
  exact etrim_c w p n c xs hn hc hm ho hx

/-- A limb; beyond the end 0. -/
theorem limb_c (w : World) (p : Option Addr) (n c : Nat) (xs : List Nat) (h : Sl w p n c xs) (i : Nat) (hi : i ≤ 9223372036854775807) :
    Calls Tryd.prog 86 #[.slice p n c, .int .i64 i] w fun e w' => e = .returned (.int .u32 (xs.getD i 0 : Nat)) ∧ w' = w := by
  by_cases hlt : i < n
  · obtain ⟨b, o, rfl, hcell⟩ := h.lie i (by rw [h.len]; exact hlt)
    have hc := h.cap
    have hm := h.max
    unfold maxLen at hm
    generalize xs.getD i 0 = x at *
    clear h
    go_enter Tryd.func86, Tryd.ntmps86
    go_wp2
    go_ret
    exact ⟨rfl, rfl⟩
  · have h0 : xs.getD i 0 = 0 := by rw [List.getD_eq_getElem?_getD, List.getElem?_eq_none (by rw [h.len]; omega)]; rfl
    rw [h0]
    have hm := h.max
    have hc := h.cap
    unfold maxLen at hm
    clear h h0
    go_enter Tryd.func86, Tryd.ntmps86
    go_wp2
    go_ret
    exact ⟨rfl, rfl⟩
end Go.Proofs.YtppihbknldmllaaDoor

/-
  euclid.differ: a p - b q, where that is not below 0.
-/
namespace Go.Proofs.YtppihbknldmllaaDoor
open Go.RowKit Nt
set_option linter.unusedSimpArgs false
set_option linter.unusedVariables false
set_option maxRecDepth 20000

theorem sl_wr {w w' : World} {p : Option Addr} {n c g : Nat} {xs zs : List Nat} (h : Sl w p n c xs) (hw : Wr w g zs w') (ha : Apart p xs g) : Sl w' p n c xs := ⟨h.len, h.cap, h.max, h.nil, h.ok, hw.limbs h.lie ha⟩

theorem val_take_next (xs : List Nat) (k : Nat) : val (xs.take (k + 1)) = val (xs.take k) + 4294967296 ^ k * xs.getD k 0 := by
  by_cases h : k < xs.length
  · exact val_take_succ xs k h
  · rw [List.take_of_length_le (by omega), List.take_of_length_le (by omega), List.getD_eq_getElem?_getD, List.getElem?_eq_none (by omega)]; simp
theorem differ_step {M VZ X Y p q P Q B P' Q' B' a b x y z : Nat} (h : VZ + Y * q + P * M = X * p + (Q + B) * M) (ha : a + 4294967296 * P' = P + x * p) (hb : b + 4294967296 * Q' = Q + y * q) (hz : z + (b + B) = a + 4294967296 * B') :
    VZ + M * z + (Y + M * y) * q + P' * (M * 4294967296) = (X + M * x) * p + (Q' + B') * (M * 4294967296) := by
  have h1 : z + y * q + 4294967296 * P' + (Q + B) = x * p + 4294967296 * (Q' + B') + P := by omega
  have h2 : M * (z + y * q + 4294967296 * P' + (Q + B)) = M * (x * p + 4294967296 * (Q' + B') + P) := by rw [h1]
  grind
theorem differ_end {M VZ U V P Q B : Nat} (h : VZ + V + P * M = U + (Q + B) * M) (hz : VZ < M) (hle : V ≤ U) (hlt : U < V + M) : VZ = U - V := by
  have h1 : VZ + P * M = (U - V) + (Q + B) * M := by omega
  have h2 : U - V < M := by omega
  have h3 : (VZ + P * M) % M = VZ := by rw [Nat.add_mul_mod_self_right, Nat.mod_eq_of_lt hz]
  rw [← h3, h1, Nat.add_mul_mod_self_right, Nat.mod_eq_of_lt h2]

set_option maxHeartbeats 4000000 in
theorem differ_c (w : World) (pa pb : Option Addr) (n c m d : Nat) (xs ys : List Nat) (p q L : Nat) (h : Sl w pa n c xs) (h' : Sl w pb m d ys) (hp : p < 4294967296) (hq : q < 4294967296) (hL : max n m = L) (hs : L ≤ 70368744177664)
    (hle : val ys * q ≤ val xs * p) (hlt : val xs * p < val ys * q + 4294967296 ^ L) :
    Calls Tryd.prog 78 #[.slice pa n c, .int .u64 p, .slice pb m d, .int .u64 q] w fun e w' => ∃ r cr, e = .returned (.slice r (digs (val xs * p - val ys * q)).length cr) ∧ Res w w' r cr (val xs * p - val ys * q) := by
  have HX := hid h
  have HY := hid h'
  have hnL : n ≤ L := by omega
  have hmL : m ≤ L := by omega
  have hmax : max (n : Int) (m : Int) = (L : Int) := by omega
  have HLE := hid hle
  have HLT := hid hlt
  clear h h' hle hlt hL
  go_enter Tryd.func78, Tryd.ntmps78
  have hcase : (n < m ∧ ∀ W : World, (Instr.makeSlice 22 (.int .i64 (m : Int)) (.int .i64 (m : Int))).run Tryd.prog W = .ok (.slice (some ⟨W.heap.size, 0, none⟩) L L) (W.alloc (.cells (U (List.replicate L 0)).toArray 51))) ∨ (m ≤ n ∧ ∀ W : World, (Instr.makeSlice 22 (.int .i64 (n : Int)) (.int .i64 (n : Int))).run Tryd.prog W = .ok (.slice (some ⟨W.heap.size, 0, none⟩) L L) (W.alloc (.cells (U (List.replicate L 0)).toArray 51))) := by
    rcases Nat.lt_or_ge n m with hc | hc
    · obtain rfl : L = m := by omega
      exact .inl ⟨hc, make_u32 L (by omega)⟩
    · obtain rfl : L = n := by omega
      exact .inr ⟨hc, make_u32 L (by omega)⟩
  rcases hcase with ⟨hc, M⟩ | ⟨hc, M⟩
  all_goals
    go_wp2_with fail
    obtain ⟨W, hW⟩ : ∃ W, W = w.alloc (.cells (U (List.replicate L 0)).toArray 51) := ⟨_, rfl⟩
    have HB := hid (show Below w.heap.size w W from by rw [hW]; exact (Below.refl _ _).alloc (Nat.le_refl _) _)
    have HG := hid (show Blk W w.heap.size (List.replicate L 0) from by rw [hW]; exact heap_alloc_last _ _)
    rw [← hW]
    clear hW M
    obtain ⟨g, hg⟩ : ∃ g, g = w.heap.size := ⟨_, rfl⟩
    rw [← hg] at HG ⊢
    have HGE := hid hg
    clear hg
    go_loopw [10, 11, 12, 23] (fun pl mi bo i wr => ∃ k P Q B : Nat, k ≤ L ∧ i = .int .i64 k ∧ pl = .int .u64 P ∧ mi = .int .u64 Q ∧ bo = .int .u64 B ∧ P < 4294967296 ∧ Q < 4294967296 ∧ B ≤ 1 ∧ ∃ Z : List Nat, Hid (Z.length = k ∧ Ok Z ∧ val Z + val (ys.take k) * q + P * 4294967296 ^ k = val (xs.take k) * p + (Q + B) * 4294967296 ^ k ∧ Wr W g ([] ++ (Z ++ (List.replicate L 0).drop k) ++ []) wr)) (fun _ _ _ i _ => L - (intOf i).toNat)
    case atStart => exact ⟨0, 0, 0, 0, Nat.zero_le _, rfl, rfl, rfl, rfl, by omega, by omega, by omega, [], rfl, Ok.nil, by simp [val], by simpa using Wr.refl HG.out⟩
    case round =>
      obtain ⟨k, P, Q, B, hk, rfl, rfl, rfl, rfl, hP, hQ, hB, Z, HZ⟩ := hrel
      by_cases hlt : k < L
      · have SX := sl_wr (HX.out.below HB.out) HZ.out.2.2.2 (HX.out.apart (by rw [HGE.out]; exact Nat.le_refl _))
        have SY := sl_wr (HY.out.below HB.out) HZ.out.2.2.2 (HY.out.apart (by rw [HGE.out]; exact Nat.le_refl _))
        have LX := limb_c wr pa n c xs SX k (by omega)
        have LY := limb_c wr pb m d ys SY k (by omega)
        obtain ⟨x, hx⟩ : ∃ x, xs.getD k 0 = x := ⟨_, rfl⟩
        obtain ⟨y, hy⟩ : ∃ y, ys.getD k 0 = y := ⟨_, rfl⟩
        have hxb : x < 4294967296 := by rw [← hx]; exact HX.out.ok.getD k
        have hyb : y < 4294967296 := by rw [← hy]; exact HY.out.ok.getD k
        rw [hx] at LX
        rw [hy] at LY
        have HLX := hid LX
        have HLY := hid LY
        have xp : x * p ≤ 18446744065119617025 := by
          have h1 : x * p ≤ 4294967295 * 4294967295 := Nat.mul_le_mul (by omega) (by omega)
          omega
        have yq : y * q ≤ 18446744065119617025 := by
          have h1 : y * q ≤ 4294967295 * 4294967295 := Nat.mul_le_mul (by omega) (by omega)
          omega
        have xp1 : (x : Int) * (p : Int) ≤ 18446744065119617025 := by rw [← Int.natCast_mul]; omega
        have xp0 : 0 ≤ (x : Int) * (p : Int) := by rw [← Int.natCast_mul]; omega
        have yq1 : (y : Int) * (q : Int) ≤ 18446744065119617025 := by rw [← Int.natCast_mul]; omega
        have yq0 : 0 ≤ (y : Int) * (q : Int) := by rw [← Int.natCast_mul]; omega
        have hblk := Wr.blk HG.out HZ.out.2.2.2
        have hc1 := hblk.cell k (by have := HZ.out.1; simp; omega)
        have hf1 := hblk.frozen k
        obtain ⟨u, hu⟩ : ∃ u, ([] ++ (Z ++ (List.replicate L 0).drop k) ++ []).getD k 0 = u := ⟨_, rfl⟩
        rw [hu] at hc1
        have HXK := hid hx
        have HYK := hid hy
        clear hx hy SX SY LX LY hblk hu
        go_wp2_with (first | (go_at_call_of 86 (Value.slice pa n c); refine HLX.out.mono ?_; rintro e w1 ⟨rfl, rfl⟩) | (go_at_call_of 86 (Value.slice pb m d); refine HLY.out.mono ?_; rintro e w1 ⟨rfl, rfl⟩))
        obtain ⟨hz1, hz2, hz3, hz4⟩ := HZ.out
        obtain ⟨a, ha⟩ : ∃ a, (P + x * p) % 4294967296 = a := ⟨_, rfl⟩
        obtain ⟨b, hb⟩ : ∃ b, (Q + y * q) % 4294967296 = b := ⟨_, rfl⟩
        have ha' : ((P : Int) + (x : Int) * (p : Int)) % 4294967296 = (a : Int) := by rw [← Int.natCast_mul]; omega
        have hb' : ((Q : Int) + (y : Int) * (q : Int)) % 4294967296 = (b : Int) := by rw [← Int.natCast_mul]; omega
        have hPd : ((P : Int) + (x : Int) * (p : Int)) / 4294967296 = (((P + x * p) / 4294967296 : Nat) : Int) := by rw [← Int.natCast_mul]; omega
        have hQd : ((Q : Int) + (y : Int) * (q : Int)) / 4294967296 = (((Q + y * q) / 4294967296 : Nat) : Int) := by rw [← Int.natCast_mul]; omega
        obtain ⟨z, B', b1, b2, e1, e2, e3⟩ := sub_limb a b B (by omega) (by omega) hB
        rw [ha', hb', hPd, hQd, e1, e2]
        refine ⟨⟨k + 1, (P + x * p) / 4294967296, (Q + y * q) / 4294967296, B', by omega, by go_num, rfl, rfl, rfl, by omega, by omega, b2, Z ++ [z], by simp [hz1], hz2.snoc b1, ?_, ?_⟩, ?_⟩
        · rw [val_snoc, hz1, val_take_next, val_take_next, HXK.out, HYK.out, Nat.pow_succ]
          exact differ_step hz3 (by omega) (by omega) e3
        · exact Wr.next' HG.out hz1 (by simp; omega) hz4 (by simp) rfl
        · simp [intOf]; omega
      · have hkL : k = L := by omega
        have hZ : val Z = val xs * p - val ys * q := by
          obtain ⟨hz1, hz2, hz3, hz4⟩ := HZ.out
          rw [hkL, List.take_of_length_le (l := xs) (by rw [HX.out.len]; omega), List.take_of_length_le (l := ys) (by rw [HY.out.len]; omega)] at hz3
          have h1 := val_lt hz2
          rw [hz1, hkL] at h1
          exact differ_end hz3 h1 HLE.out HLT.out
        have hW2 : Wr W g Z wr := by
          have := HZ.out.2.2.2
          rwa [hkL, List.drop_of_length_le (by simp), List.append_nil, List.append_nil, List.nil_append] at this
        have hz1 : Z.length = L := by rw [HZ.out.1, hkL]
        have R := hid (Res.row (w := w) (w' := wr) (hW2.below HB.out (by rw [HGE.out]; exact Nat.le_refl _)) (Wr.blk HG.out hW2) HZ.out.2.1 hZ (by rw [HGE.out]; exact Nat.le_refl _) hz1 (by unfold maxLen; omega))
        have T := hid (etrim_k wr (some ⟨g, 0, none⟩) L L (digs (val xs * p - val ys * q)).length Z (by rw [hZ]) hz1 (Nat.le_refl _) (by unfold maxLen; omega) HZ.out.2.1 (Wr.blk HG.out hW2).limbs)
        clear hZ hW2 hz1 HZ
        go_wp2_with fail
        refine T.out.mono ?_
        rintro e w3 ⟨rfl, rfl⟩
        go_wp2
        go_ret
        exact ⟨_, _, rfl, R.out⟩
end Go.Proofs.YtppihbknldmllaaDoor

/-
  euclid.window, euclid.highest: the highest 64 bits.
-/
namespace Go.Proofs.YtppihbknldmllaaDoor
open Go.RowKit Nt
set_option linter.unusedSimpArgs false
set_option linter.unusedVariables false
set_option maxRecDepth 20000

theorem orP64 (l t P q : Nat) (hP : ∃ s, P = 2 ^ s) (ht : t < P) (hl : l = q * P) (hb : l + t < 18446744073709551616) : bits .or .u64 (l : Int) (t : Int) = ((l + t : Nat) : Int) := by
  obtain ⟨s, rfl⟩ := hP
  subst hl
  rw [u64_or_nat (q * 2 ^ s) t (by omega) (by omega)]
  have : q * 2 ^ s ||| t = q * 2 ^ s + t := by rw [← Nat.shiftLeft_eq, Nat.shiftLeft_add_eq_or_of_lt ht]
  rw [this]

set_option maxHeartbeats 1000000 in
theorem window_c (w : World) (p : Option Addr) (m c : Nat) (xs : List Nat) (n s d1 d2 d3 : Nat) (h : Sl w p m c xs) (hn : 3 ≤ n) (hn' : n ≤ 70368744177664) (hs : s < 32)
    (h1 : xs.getD (n - 1) 0 = d1) (h2 : xs.getD (n - 2) 0 = d2) (h3 : xs.getD (n - 3) 0 = d3) (hd : d1 * 2 ^ s < 4294967296) :
    Calls Tryd.prog 85 #[.slice p m c, .int .i64 n, .int .i64 s] w fun e w' => e = .returned (.int .u64 ((d1 * 4294967296 + d2) * 2 ^ s + d3 / 2 ^ (32 - s) : Nat)) ∧ ∃ nq, w' = w.drewN nq := by
  have L1 := limb_c w p m c xs h (n - 1) (by omega)
  have L2 := limb_c w p m c xs h (n - 2) (by omega)
  have L3 : ∀ k, Calls Tryd.prog 86 #[.slice p m c, .int .i64 (n - 3 : Nat)] (w.drewN k) fun e w' => e = .returned (.int .u32 (xs.getD (n - 3) 0 : Nat)) ∧ w' = w.drewN k := fun k => limb_c (w.drewN k) p m c xs (h.below (below_drewN' (Below.refl _ _) k)) (n - 3) (by omega)
  have b1 : d1 < 4294967296 := by rw [← h1]; exact h.ok.getD _
  have b2 : d2 < 4294967296 := by rw [← h2]; exact h.ok.getD _
  have b3 : d3 < 4294967296 := by rw [← h3]; exact h.ok.getD _
  rw [h1, show ((n - 1 : Nat) : Int) = (n : Int) - 1 from by omega] at L1
  rw [h2, show ((n - 2 : Nat) : Int) = (n : Int) - 1 - 1 from by omega] at L2
  rw [h3, show ((n - 3 : Nat) : Int) = (n : Int) - 3 from by omega] at L3
  obtain ⟨P, hP⟩ : ∃ P, 2 ^ s = P := ⟨_, rfl⟩
  obtain ⟨r, hr⟩ : ∃ r, 32 - s = r := ⟨_, rfl⟩
  obtain ⟨R, hR⟩ : ∃ R, 2 ^ r = R := ⟨_, rfl⟩
  obtain ⟨V, hV⟩ : ∃ V, d1 * 4294967296 + d2 = V := ⟨_, rfl⟩
  rw [hP] at hd
  rw [hr, hP, hR, hV]
  have hPi : (2 : Int) ^ s = (P : Int) := by rw [← hP]; simp
  have hRi : (2 : Int) ^ r = (R : Int) := by rw [← hR]; simp
  have hri : (32 : Int) - (s : Int) = (r : Int) := by omega
  have hrb : r ≤ 32 := by omega
  have hPR : P * R = 4294967296 := by rw [← hP, ← hR, ← Nat.pow_add, show s + r = 32 from by omega]
  have hP0 : 0 < P := by rw [← hP]; exact Nat.two_pow_pos s
  have hR0 : 0 < R := by rw [← hR]; exact Nat.two_pow_pos r
  have hVP : V * P + P ≤ 18446744073709551616 := by
    have e : P * R * P * R = 18446744073709551616 := by rw [Nat.mul_assoc, hPR]
    have h4 : d1 * P + P ≤ 4294967296 := by
      have hdR : d1 < R := by
        apply Nat.lt_of_mul_lt_mul_right (a := P)
        rw [Nat.mul_comm R P, hPR]; exact hd
      have := Nat.mul_le_mul_right P (show d1 + 1 ≤ R from hdR)
      rw [Nat.add_mul, Nat.one_mul, Nat.mul_comm R P, hPR] at this
      exact this
    have h5 : (V + 1) * P ≤ (d1 + 1) * 4294967296 * P := Nat.mul_le_mul_right P (by omega)
    have h6 : (d1 + 1) * 4294967296 * P = (d1 * P + P) * 4294967296 := by grind
    rw [h6, Nat.add_mul V 1 P, Nat.one_mul] at h5
    omega
  have hVP1 : (V : Int) * (P : Int) ≤ 18446744073709551615 := by rw [← Int.natCast_mul]; omega
  have hVP0 : 0 ≤ (V : Int) * (P : Int) := by rw [← Int.natCast_mul]; omega
  have HP := hid hP
  have HV := hid hV
  have HPR := hid hPR
  have HR := hid hR
  have HVP := hid hVP
  clear hPR hP hV hR hVP
  have H1 := hid L1
  have H2 := hid L2
  have H3 := hid L3
  clear L1 L2 L3 h1 h2 h3 h hr
  go_enter Tryd.func85, Tryd.ntmps85
  go_wp2_with fail
  go_loop [7, 9] (fun v i => (i = .int .i64 0 ∧ v = .int .u64 0) ∨ (i = .int .i64 1 ∧ v = .int .u64 d1) ∨ (i = .int .i64 2 ∧ v = .int .u64 V)) (fun _ i => 2 - (intOf i).toNat)
  case atStart => exact .inl ⟨rfl, rfl⟩
  case round =>
    rcases hrel with ⟨rfl, rfl⟩ | ⟨rfl, rfl⟩ | ⟨rfl, rfl⟩
    · go_wp2_with (first | (go_at_call_of 86 (Value.slice p m c); refine H1.out.mono ?_; rintro e w1 ⟨rfl, rfl⟩))
      exact ⟨.inr (.inl ⟨rfl, by rw [or64_zero _ b1]⟩), by simp [intOf]⟩
    · go_wp2_with (first | (go_at_call_of 86 (Value.slice p m c); refine H2.out.mono ?_; rintro e w1 ⟨rfl, rfl⟩))
      exact ⟨.inr (.inr ⟨rfl, by rw [or64' _ _ b2 b1, ← HV.out, Nat.add_comm, Nat.mul_comm]⟩), by simp [intOf]⟩
    · go_wp2_with fail
      go_quiet ((go_at_call 86; exact (H3.out _).mono (fun _ _ h => ⟨h.1, _, h.2⟩)))
      go_wp2
      go_ret
      have ht : d3 / R < P := by
        apply Nat.div_lt_of_lt_mul
        have := HPR.out
        rw [Nat.mul_comm R P]
        omega
      have hv := HVP.out
      refine ⟨?_, dr1 _ _⟩
      show Ending.returned (Value.int IntKind.u64 (bits BinOp.or IntKind.u64 ((V : Int) * (P : Int)) ((d3 : Int) / (R : Int)))) = _
      refine ret_int ?_
      rw [← Int.natCast_mul, ← Int.natCast_ediv]
      exact orP64 (V * P) (d3 / R) P V ⟨s, HP.out.symm⟩ ht rfl (by omega)
end Go.Proofs.YtppihbknldmllaaDoor

/-
  euclid.highest: the highest 64 bits of a, and those of b at the same places.
-/
namespace Go.Proofs.YtppihbknldmllaaDoor
open Go.RowKit Nt
set_option linter.unusedSimpArgs false
set_option linter.unusedVariables false
set_option maxRecDepth 20000

/-- A number of at most n limbs, by its highest three. -/
theorem val_top3 (xs : List Nat) (n : Nat) (hn : 3 ≤ n) (hl : xs.length ≤ n) : val xs = val (xs.take (n - 3)) + 4294967296 ^ (n - 3) * (xs.getD (n - 3) 0 + 4294967296 * xs.getD (n - 2) 0 + 4294967296 * 4294967296 * xs.getD (n - 1) 0) := by
  obtain ⟨k, rfl⟩ : ∃ k, n = k + 3 := ⟨n - 3, by omega⟩
  have e1 := val_take_next xs k
  have e2 := val_take_next xs (k + 1)
  have e3 := val_take_next xs (k + 2)
  rw [List.take_of_length_le (show xs.length ≤ k + 2 + 1 from by omega)] at e3
  rw [show k + 3 - 3 = k from by omega, show k + 3 - 2 = k + 1 from by omega, show k + 3 - 1 = k + 2 from by omega, e3, e2, e1, Nat.pow_succ 4294967296 (k + 1), Nat.pow_succ 4294967296 k]
  generalize 4294967296 ^ k = K
  grind
theorem take_lt (xs : List Nat) (k : Nat) (h : Ok xs) : val (xs.take k) < 4294967296 ^ k := by
  have h1 := val_lt (h.take k)
  have h2 : (xs.take k).length ≤ k := by simp; omega
  exact Nat.lt_of_lt_of_le h1 (Nat.pow_le_pow_right (by omega) h2)
/-- What a window shows. -/
theorem window_val {V d1 d2 d3 low T P R : Nat} (hPR : P * R = 4294967296) (hR : 0 < R) (hlow : low < T) (hV : V = low + T * (d3 + 4294967296 * d2 + 4294967296 * 4294967296 * d1)) :
    ∃ v0, v0 < R * T ∧ V = ((d1 * 4294967296 + d2) * P + d3 / R) * (R * T) + v0 := by
  refine ⟨low + T * (d3 % R), ?_, ?_⟩
  · have h1 : d3 % R + 1 ≤ R := Nat.mod_lt _ hR
    have h2 : T * (d3 % R + 1) ≤ T * R := Nat.mul_le_mul_left T h1
    rw [Nat.mul_add, Nat.mul_one] at h2
    rw [Nat.mul_comm R T]
    omega
  · have h3 := Nat.div_add_mod d3 R
    obtain ⟨q, hq⟩ : ∃ q, d3 / R = q := ⟨_, rfl⟩
    obtain ⟨t, ht⟩ : ∃ t, d3 % R = t := ⟨_, rfl⟩
    rw [hq, ht] at h3 ⊢
    rw [hV, ← h3]
    have e : (d1 * 4294967296 + d2) * P * (R * T) = (d1 * 4294967296 + d2) * 4294967296 * T := by
      rw [← Nat.mul_assoc, Nat.mul_assoc _ P R, hPR]
    rw [Nat.add_mul _ q, e]
    grind

theorem top_le {X Y l l' h h' T : Nat} (hX : X = l + T * h) (hY : Y = l' + T * h') (hl : l < T) (hle : Y ≤ X) : h' ≤ h := by
  apply Classical.byContradiction
  intro hn
  have h1 : T * (h + 1) ≤ T * h' := Nat.mul_le_mul_left T (by omega)
  rw [Nat.mul_add, Nat.mul_one] at h1
  omega

theorem hi_help {A P T q : Nat} (h5 : A + P ≤ T * 4294967296) (h4 : T ≤ 4294967296) (h1 : q < P) : A + q < 18446744073709551616 := by omega
theorem lo_help {A B q : Nat} (h : 2147483648 ≤ A) : 9223372036854775808 ≤ A * 4294967296 + B + q := by omega

set_option maxHeartbeats 2000000 in
theorem highest_c (w : World) (pa pb : Option Addr) (n c m d : Nat) (xs ys : List Nat) (h : Sl w pa n c xs) (h' : Sl w pb m d ys) (hn : 3 ≤ n) (hn' : n ≤ 70368744177664) (ht : xs.getD (n - 1) 0 ≠ 0) (hmn : m ≤ n) (hle : val ys ≤ val xs) :
    Calls Tryd.prog 77 #[.slice pa n c, .slice pb m d] w fun e w' => ∃ X Y K x0 y0 : Nat, e = .returned (.tuple #[.int .u64 X, .int .u64 Y]) ∧ (∃ nq, w' = w.drewN nq) ∧ x0 < K ∧ y0 < K ∧ val xs = X * K + x0 ∧ val ys = Y * K + y0 ∧ 9223372036854775808 ≤ X ∧ X < 18446744073709551616 := by
  obtain ⟨d1, hd1⟩ : ∃ x, xs.getD (n - 1) 0 = x := ⟨_, rfl⟩
  obtain ⟨d2, hd2⟩ : ∃ x, xs.getD (n - 2) 0 = x := ⟨_, rfl⟩
  obtain ⟨d3, hd3⟩ : ∃ x, xs.getD (n - 3) 0 = x := ⟨_, rfl⟩
  obtain ⟨e1, he1⟩ : ∃ x, ys.getD (n - 1) 0 = x := ⟨_, rfl⟩
  obtain ⟨e2, he2⟩ : ∃ x, ys.getD (n - 2) 0 = x := ⟨_, rfl⟩
  obtain ⟨e3, he3⟩ : ∃ x, ys.getD (n - 3) 0 = x := ⟨_, rfl⟩
  have b1 : d1 < 4294967296 := by rw [← hd1]; exact h.ok.getD _
  have b2 : d2 < 4294967296 := by rw [← hd2]; exact h.ok.getD _
  have b3 : d3 < 4294967296 := by rw [← hd3]; exact h.ok.getD _
  have c1 : e1 < 4294967296 := by rw [← he1]; exact h'.ok.getD _
  have c2 : e2 < 4294967296 := by rw [← he2]; exact h'.ok.getD _
  have c3 : e3 < 4294967296 := by rw [← he3]; exact h'.ok.getD _
  rw [hd1] at ht
  have VX := val_top3 xs n hn (by rw [h.len]; exact Nat.le_refl _)
  have VY := val_top3 ys n hn (by rw [h'.len]; exact hmn)
  rw [hd1, hd2, hd3] at VX
  rw [he1, he2, he3] at VY
  have lx := take_lt xs (n - 3) h.ok
  have ly := take_lt ys (n - 3) h'.ok
  have hed : e1 ≤ d1 := by
    have := top_le VX VY lx hle
    omega
  obtain ⟨s1, s2⟩ := bitLen_spec d1
  have hb32 : Go.bitLen d1 ≤ 32 := by
    apply Classical.byContradiction
    intro hc
    have h1 := s2 ht
    have h2 : 2 ^ 32 ≤ 2 ^ (Go.bitLen d1 - 1) := Nat.pow_le_pow_right (by omega) (by omega)
    omega
  have hb0 : Go.bitLen d1 ≠ 0 := by intro e; rw [e] at s1; simp at s1; exact ht s1
  obtain ⟨s, hs⟩ : ∃ s, s + Go.bitLen d1 = 32 := ⟨32 - Go.bitLen d1, by omega⟩
  have hs32 : s < 32 := by omega
  have hPR : 2 ^ s * 2 ^ (32 - s) = 4294967296 := by rw [← Nat.pow_add, show s + (32 - s) = 32 from by omega]
  have hd : d1 * 2 ^ s < 4294967296 := by
    have h1 : d1 * 2 ^ s < 2 ^ Go.bitLen d1 * 2 ^ s := Nat.mul_lt_mul_of_pos_right s1 (Nat.two_pow_pos s)
    rw [← Nat.pow_add, show Go.bitLen d1 + s = 32 from by omega] at h1
    exact h1
  have hd' : 2147483648 ≤ d1 * 2 ^ s := by
    have h1 : 2 ^ (Go.bitLen d1 - 1) * 2 ^ s ≤ d1 * 2 ^ s := Nat.mul_le_mul_right _ (s2 ht)
    rw [← Nat.pow_add, show Go.bitLen d1 - 1 + s = 31 from by omega] at h1
    exact h1
  have he : e1 * 2 ^ s < 4294967296 := Nat.lt_of_le_of_lt (Nat.mul_le_mul_right _ hed) hd
  obtain ⟨x0, hx0, HVX⟩ := window_val hPR (Nat.two_pow_pos _) lx VX
  obtain ⟨y0, hy0, HVY⟩ := window_val hPR (Nat.two_pow_pos _) ly VY
  have WX := window_c w pa n c xs n s d1 d2 d3 h hn hn' hs32 hd1 hd2 hd3 hd
  have WY := fun k => window_c (w.drewN k) pb m d ys n s e1 e2 e3 (h'.below (below_drewN' (Below.refl _ _) k)) hn hn' hs32 he1 he2 he3 he
  obtain ⟨X, hX⟩ : ∃ X, (d1 * 4294967296 + d2) * 2 ^ s + d3 / 2 ^ (32 - s) = X := ⟨_, rfl⟩
  obtain ⟨Y, hY⟩ : ∃ Y, (e1 * 4294967296 + e2) * 2 ^ s + e3 / 2 ^ (32 - s) = Y := ⟨_, rfl⟩
  rw [hX] at WX HVX
  rw [hY] at WY HVY
  have hXlo : 9223372036854775808 ≤ X := by
    rw [← hX, Nat.add_mul, Nat.mul_right_comm]
    exact lo_help hd'
  have hXhi : X < 18446744073709551616 := by
    have hP0 := Nat.two_pow_pos s
    have h1 : d3 / 2 ^ (32 - s) < 2 ^ s := by
      apply Nat.div_lt_of_lt_mul
      rw [Nat.mul_comm, hPR]
      exact b3
    have hdR : d1 < 2 ^ (32 - s) := by
      apply Nat.lt_of_mul_lt_mul_right (a := 2 ^ s)
      rw [Nat.mul_comm (2 ^ (32 - s)), hPR]; exact hd
    have h4 : (d1 + 1) * 2 ^ s ≤ 4294967296 := by
      have := Nat.mul_le_mul_right (2 ^ s) (show d1 + 1 ≤ 2 ^ (32 - s) from hdR)
      rw [Nat.mul_comm (2 ^ (32 - s)), hPR] at this
      exact this
    have h5 : (d1 * 4294967296 + d2 + 1) * 2 ^ s ≤ (d1 + 1) * 4294967296 * 2 ^ s := Nat.mul_le_mul_right _ (by omega)
    rw [Nat.mul_right_comm, Nat.add_mul _ 1 (2 ^ s), Nat.one_mul] at h5
    rw [← hX]
    exact hi_help h5 h4 h1
  have R : ∃ X' Y' K x0 y0 : Nat, X' = X ∧ Y' = Y ∧ x0 < K ∧ y0 < K ∧ val xs = X' * K + x0 ∧ val ys = Y' * K + y0 ∧ 9223372036854775808 ≤ X' ∧ X' < 18446744073709551616 := ⟨X, Y, _, x0, y0, rfl, rfl, hx0, hy0, HVX, HVY, hXlo, hXhi⟩
  have LZ := hid (lz_c w d1 s b1 hs)
  obtain ⟨b, o, rfl, hcell⟩ := h.lie (n - 1) (by rw [h.len]; omega)
  rw [hd1] at hcell
  have hm := h.max
  have hc := h.cap
  unfold maxLen at hm
  have HR := hid R
  have HWX := hid WX
  have HWY := hid WY
  clear R WX WY hX hY HVX HVY hx0 hy0 hd1 hd2 hd3 he1 he2 he3 VX VY lx ly s1 s2 hPR hd hd' he h h' hle hs hb32 hb0 hed hXlo hXhi
  go_enter Tryd.func77, Tryd.ntmps77
  go_wp2_with fail
  refine LZ.out.mono ?_
  rintro e w1 ⟨rfl, rfl⟩
  go_wp2_with fail
  refine HWX.out.mono ?_
  rintro e w2 ⟨rfl, n1, rfl⟩
  go_wp2_with fail
  refine (HWY.out _).mono ?_
  rintro e w3 ⟨rfl, n2, rfl⟩
  go_wp2
  go_ret2
  obtain ⟨X', Y', K, x0, y0, rfl, rfl, q1, q2, q3, q4, q5, q6⟩ := HR.out
  exact ⟨_, _, K, x0, y0, rfl, dr1 _ _, q1, q2, q3, q4, q5, q6⟩
end Go.Proofs.YtppihbknldmllaaDoor

/-
  Plain mathematics, no Go: what euclid.Look's loop keeps, with the numbers themselves.
-/
namespace Go.Proofs.YtppihbknldmllaaDoor.Nt

theorem rest_falls' {X Y x y U1 V1 u2 v2 K a0 b0 : Nat} (h : Sd X Y x y U1 V1 u2 v2) (hb : b0 < K) (hxy : V1 + v2 + y ≤ x) (hp : 1 ≤ V1 + v2) : (V1 + v2) * (Y * K + b0) < (U1 + u2) * (X * K + a0) := by
  have h0 : (V1 + v2) * b0 < (V1 + v2) * K := Nat.mul_lt_mul_of_pos_left hb (by omega)
  have h1 : (V1 + v2) * K ≤ (x - y) * K := Nat.mul_le_mul_right K (by omega)
  have e : (U1 + u2) * X = (x - y) + (V1 + v2) * Y := by
    rw [Nat.add_mul, Nat.add_mul, h.ex, h.ey]
    omega
  rw [Nat.mul_add, Nat.mul_add, ← Nat.mul_assoc, ← Nat.mul_assoc, e, Nat.add_mul (x - y) ((V1 + v2) * Y) K]
  omega

/-- What the steps do to the numbers. -/
def Good (a b U0 V0 U1 V1 : Nat) (odd : Bool) : Prop :=
  ∃ a' b', (odd = true ∧ V0 * b = a' + U0 * a ∧ U1 * a = b' + V1 * b ∨ odd = false ∧ U0 * a = a' + V0 * b ∧ V1 * b = b' + U1 * a) ∧ b' < a' ∧ a' ≤ b ∧ Nat.gcd a' b' = Nat.gcd a b

/-- From one place to the pair behind it. -/
theorem good_true {X Y x y U1 V1 u2 v2 K a0 b0 : Nat} (h : Lk X Y x y U1 V1 u2 v2) (ha : a0 < K) (hb : b0 < K) (hu : u2 ≤ v2) (hu1 : 1 ≤ u2) (hy : v2 ≤ y) (hxy : V1 + v2 + y ≤ x) : Good (X * K + a0) (Y * K + b0) U1 V1 u2 v2 false := by
  have r1 := rest_ok (b0 := b0) h.sd.ey ha (Nat.le_trans hu hy)
  have r2 := rest_falls' (a0 := a0) h.sd hb hxy (by omega)
  generalize X * K + a0 = a at *
  generalize Y * K + b0 = b at *
  rw [Nat.add_mul, Nat.add_mul] at r2
  have ea : U1 * a = (U1 * a - V1 * b) + V1 * b := by omega
  have eb : v2 * b = (v2 * b - u2 * a) + u2 * a := by omega
  have det : v2 * U1 = 1 + V1 * u2 := by rw [Nat.mul_comm, h.det, Nat.mul_comm u2]
  refine ⟨U1 * a - V1 * b, v2 * b - u2 * a, .inr ⟨rfl, ea, eb⟩, by omega, ?_, ?_⟩
  · have := (pair_back ea eb det).1
    have h1 : 1 * (U1 * a - V1 * b) ≤ u2 * (U1 * a - V1 * b) := Nat.mul_le_mul_right _ hu1
    omega
  · rw [pair_gcd ea eb det, Nat.gcd_comm]
theorem good_false {X Y x y U1 V1 u2 v2 K a0 b0 : Nat} (h : Lk Y X x y V1 U1 v2 u2) (ha : a0 < K) (hb : b0 < K) (hu : u2 ≤ v2) (hu' : U1 ≤ V1) (hu1 : 1 ≤ u2) (hy : v2 ≤ y) (hxy : V1 + v2 + y ≤ x) : Good (X * K + a0) (Y * K + b0) U1 V1 u2 v2 true := by
  have r1 := rest_ok (b0 := a0) h.sd.ey hb hy
  have r2 := rest_falls' (a0 := b0) h.sd ha (by omega) (by omega)
  generalize X * K + a0 = a at *
  generalize Y * K + b0 = b at *
  rw [Nat.add_mul, Nat.add_mul] at r2
  have ea : V1 * b = (V1 * b - U1 * a) + U1 * a := by omega
  have eb : u2 * a = (u2 * a - v2 * b) + v2 * b := by omega
  have det : u2 * V1 = 1 + U1 * v2 := by rw [Nat.mul_comm, h.det, Nat.mul_comm v2]
  refine ⟨V1 * b - U1 * a, u2 * a - v2 * b, .inl ⟨rfl, ea, eb⟩, by omega, ?_, ?_⟩
  · have := (pair_back ea eb det).2
    have h1 : 1 * (V1 * b - U1 * a) ≤ u2 * (V1 * b - U1 * a) := Nat.mul_le_mul_right _ hu1
    omega
  · rw [pair_gcd ea eb det]

structure LI (X Y K a0 b0 x y U0 V0 U1 V1 u2 v2 : Nat) (odd : Bool) : Prop where
  side : odd = true ∧ Lk X Y x y U1 V1 u2 v2 ∨ odd = false ∧ Lk Y X x y V1 U1 v2 u2
  le : y ≤ x
  xX : x ≤ X
  uv : u2 ≤ v2
  pos : 1 ≤ v2
  vX : v2 ≤ X
  small : U0 < 4294967296 ∧ V0 < 4294967296 ∧ U1 < 4294967296 ∧ V1 < 4294967296
  phase : (V0 = 0 ∧ U0 = 0 ∧ U1 = 1 ∧ V1 = 0 ∧ u2 = 0 ∧ v2 = 1 ∧ odd = true) ∨ (V0 = 0 ∧ V1 = 1 ∧ U1 = 0 ∧ u2 = 1 ∧ odd = false) ∨ (1 ≤ V0 ∧ 1 ≤ U1 ∧ U1 ≤ V1 ∧ 1 ≤ u2 ∧ Good (X * K + a0) (Y * K + b0) U0 V0 U1 V1 odd)

/-- The highest bits by the place: X = v2 x + V1 y, on both sides. -/
theorem lk_high {X Y x y U1 V1 u2 v2 : Nat} (h : Lk X Y x y U1 V1 u2 v2) : X = v2 * x + V1 * y ∧ Y = u2 * x + U1 * y := by
  have e1 := h.sd.ex
  have e2 := h.sd.ey
  have d : v2 * U1 = 1 + V1 * u2 := by rw [Nat.mul_comm, h.det, Nat.mul_comm u2]
  have := pair_back (a := Y) (b := X) (a' := x) (b' := y) (U0 := V1) (V0 := U1) (U1 := v2) (V1 := u2) e1 e2 d
  exact ⟨this.2, this.1⟩

theorem LI.start {X Y K a0 b0 : Nat} (h : Y ≤ X) (hX : 1 ≤ X) : LI X Y K a0 b0 X Y 0 0 1 0 0 1 true :=
  ⟨.inl ⟨rfl, ⟨by omega, by omega⟩, by omega⟩, h, Nat.le_refl _, by omega, by omega, hX, ⟨by omega, by omega, by omega, by omega⟩, .inl ⟨rfl, rfl, rfl, rfl, rfl, rfl, rfl⟩⟩

theorem LI.high {X Y K a0 b0 x y U0 V0 U1 V1 u2 v2 : Nat} {odd : Bool} (h : LI X Y K a0 b0 x y U0 V0 U1 V1 u2 v2 odd) : X = v2 * x + V1 * y := by
  rcases h.side with ⟨_, k⟩ | ⟨_, k⟩
  · exact (lk_high k).1
  · exact (lk_high k).2

theorem LI.next {X Y K a0 b0 x y U0 V0 U1 V1 u2 v2 : Nat} {odd : Bool} (h : LI X Y K a0 b0 x y U0 V0 U1 V1 u2 v2 odd) (ha : a0 < K) (hb : b0 < K) (hX : X < 18446744073709551616) (hy : v2 ≤ y) (hxy : V1 + v2 + y ≤ x) :
    LI X Y K a0 b0 y (x % y) U1 V1 u2 v2 (U1 + x / y * u2) (V1 + x / y * v2) (!odd) := by
  have hp := h.pos
  have huv := h.uv
  have hle := h.le
  obtain ⟨q0, q1, q2, q3⟩ := h.small
  have hq : 1 ≤ x / y := (Nat.le_div_iff_mul_le (by omega)).2 (by omega)
  have hsq : v2 < 4294967296 := by
    have e := h.high
    have h1 : v2 * v2 ≤ v2 * x := Nat.mul_le_mul_left _ (by omega)
    apply Classical.byContradiction
    intro hc
    have h2 : 4294967296 * 4294967296 ≤ v2 * v2 := Nat.mul_le_mul (by omega) (by omega)
    omega
  have hmul : x / y * u2 ≤ x / y * v2 := Nat.mul_le_mul_left _ huv
  have hmul1 : 1 * v2 ≤ x / y * v2 := Nat.mul_le_mul_right _ hq
  have huv' : U1 + x / y * u2 ≤ V1 + x / y * v2 := by
    rcases h.phase with ⟨_, _, rfl, rfl, rfl, rfl, _⟩ | ⟨_, rfl, rfl, rfl, _⟩ | ⟨_, _, hc, _, _⟩
    · omega
    · omega
    · omega
  have hside : (!odd) = true ∧ Lk X Y y (x % y) u2 v2 (U1 + x / y * u2) (V1 + x / y * v2) ∨ (!odd) = false ∧ Lk Y X y (x % y) v2 u2 (V1 + x / y * v2) (U1 + x / y * u2) := by
    rcases h.side with ⟨rfl, k⟩ | ⟨rfl, k⟩
    · exact .inr ⟨rfl, k.next⟩
    · exact .inl ⟨rfl, k.next⟩
  have hhigh : X = (V1 + x / y * v2) * y + v2 * (x % y) := by
    rcases hside with ⟨_, k⟩ | ⟨_, k⟩
    · exact (lk_high k).1
    · exact (lk_high k).2
  refine ⟨hside, Nat.le_of_lt (Nat.mod_lt _ (by omega)), by have := h.xX; omega, huv', by omega, ?_, ⟨q2, q3, by omega, hsq⟩, ?_⟩
  · have h1 : (V1 + x / y * v2) * 1 ≤ (V1 + x / y * v2) * y := Nat.mul_le_mul_left _ (by omega)
    omega
  · rcases h.phase with ⟨_, _, rfl, rfl, rfl, rfl, rfl⟩ | ⟨_, rfl, rfl, rfl, rfl⟩ | ⟨p1, p2, p3, p4, _⟩
    · exact .inr (.inl ⟨rfl, rfl, rfl, by omega, rfl⟩)
    · refine .inr (.inr ⟨by omega, by omega, huv, by omega, ?_⟩)
      rcases h.side with ⟨hh, k⟩ | ⟨_, k⟩
      · cases hh
      · exact good_false k ha hb huv (by omega) (by omega) hy hxy
    · refine .inr (.inr ⟨by omega, by omega, huv, by omega, ?_⟩)
      rcases h.side with ⟨rfl, k⟩ | ⟨rfl, k⟩
      · exact good_true k ha hb huv p4 hy hxy
      · exact good_false k ha hb huv p3 p4 hy hxy
end Go.Proofs.YtppihbknldmllaaDoor.Nt

/-
  euclid.Look: many steps at once.
-/
namespace Go.Proofs.YtppihbknldmllaaDoor
open Go.RowKit Nt
set_option linter.unusedSimpArgs false
set_option linter.unusedVariables false
set_option maxRecDepth 20000

theorem wr64 (n : Nat) (h : n < 18446744073709551616) : IntKind.u64.wrap (n : Int) = (n : Int) := by
  simp only [IntKind.wrap_u64]
  omega
theorem look_y (x y : Nat) (hx : x < 18446744073709551616) : IntKind.u64.wrap ((x : Int) - IntKind.u64.wrap (IntKind.u64.wrap ((x : Int) / (y : Int)) * (y : Int))) = ((x % y : Nat) : Int) := by
  have h1 : x / y ≤ x := Nat.div_le_self _ _
  have h2 : x / y * y ≤ x := Nat.div_mul_le_self _ _
  have h3 := Nat.div_add_mod x y
  rw [Nat.mul_comm] at h3
  rw [← Int.natCast_ediv, wr64 (x / y) (by omega), ← Int.natCast_mul, wr64 (x / y * y) (by omega), show (x : Int) - ((x / y * y : Nat) : Int) = ((x % y : Nat) : Int) from by omega, wr64 _ (by omega)]
theorem look_v (x y U u : Nat) (hx : x < 18446744073709551616) (h : U + x / y * u < 18446744073709551616) : IntKind.u64.wrap ((U : Int) + IntKind.u64.wrap (IntKind.u64.wrap ((x : Int) / (y : Int)) * (u : Int))) = ((U + x / y * u : Nat) : Int) := by
  have h1 : x / y ≤ x := Nat.div_le_self _ _
  rw [← Int.natCast_ediv, wr64 (x / y) (by omega), ← Int.natCast_mul, wr64 (x / y * u) (by omega), ← Int.natCast_add, wr64 _ h]
theorem st_set {w : World} {g : Nat} {arr : Array Value} {t : TypeId} {fr : Nat × Nat} (h : w.heap[g]? = some (.cells arr t fr)) (i : Nat) (v : Value) : (w.setCell ⟨g, i, none⟩ v).heap[g]? = some (.cells (arr.setIfInBounds i v) t fr) := by
  rw [setCell_eq_setRow w g i arr _ _ v h]
  exact setRow_heap w g _ _ _ _ h
theorem st_below {w0 w : World} {B g : Nat} {arr : Array Value} {t : TypeId} {fr : Nat × Nat} (h : w.heap[g]? = some (.cells arr t fr)) (i : Nat) (v : Value) (hb : Below B w0 w) (hg : B ≤ g) : Below B w0 (w.setCell ⟨g, i, none⟩ v) := by
  rw [setCell_eq_setRow w g i arr _ _ v h]
  exact below_setRow hb hg _
theorem five {w : World} {g : Nat} {u0 u1 u2 u3 u4 : Value} {t : TypeId} {fr : Nat × Nat} (h : w.heap[g]? = some (.cells #[u0, u1, u2, u3, u4] t fr)) (v0 v1 v2 v3 v4 : Value) :
    (((((w.setCell ⟨g, 0, none⟩ v0).setCell ⟨g, 1, none⟩ v1).setCell ⟨g, 2, none⟩ v2).setCell ⟨g, 3, none⟩ v3).setCell ⟨g, 4, none⟩ v4).heap[g]? = some (.cells #[v0, v1, v2, v3, v4] t fr) := by
  have := st_set (st_set (st_set (st_set (st_set h 0 v0) 1 v1) 2 v2) 3 v3) 4 v4
  rw [this]; rfl
theorem five_below {w0 w : World} {B g : Nat} {u0 u1 u2 u3 u4 : Value} {t : TypeId} {fr : Nat × Nat} (h : w.heap[g]? = some (.cells #[u0, u1, u2, u3, u4] t fr)) (v0 v1 v2 v3 v4 : Value) (hb : Below B w0 w) (hg : B ≤ g) :
    Below B w0 (((((w.setCell ⟨g, 0, none⟩ v0).setCell ⟨g, 1, none⟩ v1).setCell ⟨g, 2, none⟩ v2).setCell ⟨g, 3, none⟩ v3).setCell ⟨g, 4, none⟩ v4) := by
  have k0 := st_set h 0 v0
  have k1 := st_set k0 1 v1
  have k2 := st_set k1 2 v2
  have k3 := st_set k2 3 v3
  exact st_below k3 4 v4 (st_below k2 3 v3 (st_below k1 2 v2 (st_below k0 1 v1 (st_below h 0 v0 hb hg) hg) hg) hg) hg

set_option maxHeartbeats 4000000 in
theorem look_c (w : World) (pa pb : Option Addr) (n c m d : Nat) (xs ys : List Nat) (h : Sl w pa n c xs) (h' : Sl w pb m d ys) (hn : 3 ≤ n) (hn' : n ≤ 70368744177664) (ht : xs.getD (n - 1) 0 ≠ 0) (hmn : m ≤ n) (hle : val ys ≤ val xs) :
    Calls Tryd.prog 69 #[.slice pa n c, .slice pb m d] w fun e w' => ∃ (U0 V0 U1 V1 : Nat) (odd : Bool), e = .returned (.tuple #[.agg #[.int .u64 U0, .int .u64 V0, .int .u64 U1, .int .u64 V1, .bool odd], .bool (!decide (V0 = 0))]) ∧ (U0 < 4294967296 ∧ V0 < 4294967296 ∧ U1 < 4294967296 ∧ V1 < 4294967296) ∧ (V0 ≠ 0 → Nt.Good (val xs) (val ys) U0 V0 U1 V1 odd) ∧ Below w.heap.size w w' := by
  have HH := hid (fun (W : World) (hB : Below w.heap.size w W) => highest_c W pa pb n c m d xs ys (h.below hB) (h'.below hB) hn hn' ht hmn hle)
  have HLE := hid hle
  clear h h' ht hle
  go_enter Tryd.func69, Tryd.ntmps69
  go_wp2_with fail
  obtain ⟨W0, hW0⟩ : ∃ W, W = w.alloc (.cells #[.int .u64 0, .int .u64 0, .int .u64 0, .int .u64 0, .bool false] 88) := ⟨_, rfl⟩
  have HB0 := hid (show Below w.heap.size w W0 from by rw [hW0]; exact (Below.refl _ _).alloc (Nat.le_refl _) _)
  have HG0 := hid (show W0.heap[w.heap.size]? = some (.cells #[.int .u64 0, .int .u64 0, .int .u64 0, .int .u64 0, .bool false] 88) from by rw [hW0]; exact heap_alloc_last _ _)
  rw [← hW0]
  refine (HH.out W0 HB0.out).mono ?_
  rintro e w1 ⟨X, Y, K, x0, y0, rfl, ⟨nq, rfl⟩, g1, g2, g3, g4, g5, g6⟩
  go_wp2_with fail
  rw [← hW0]
  obtain ⟨W1, hW1⟩ : ∃ W, W = (W0.drewN nq).alloc (.cells #[.int .u64 0, .int .u64 0, .int .u64 1, .int .u64 0, .bool true] 88) := ⟨_, rfl⟩
  have HS0 := hid (show W0.heap.size = w.heap.size + 1 from by rw [hW0]; simp)
  have HG1 := hid (show W1.heap[w.heap.size + 1]? = some (.cells #[.int .u64 0, .int .u64 0, .int .u64 1, .int .u64 0, .bool true] 88) from by rw [hW1, ← HS0.out]; exact heap_alloc_last _ _)
  rw [← hW1]
  clear hW0
  obtain ⟨g, hg⟩ : ∃ g, g = w.heap.size + 1 := ⟨_, rfl⟩
  rw [← hg] at HG1 ⊢
  have HGE := hid hg
  have HW1 := hid hW1
  clear hg hW1
  have HI0 := hid (LI.start (X := X) (Y := Y) (K := K) (a0 := x0) (b0 := y0) (top_le (l := x0) (l' := y0) (T := K) (by rw [g3, Nat.mul_comm, Nat.add_comm]) (by rw [g4, Nat.mul_comm, Nat.add_comm]) g1 HLE.out) (by omega))
  have HBX := hid (show Below W0.heap.size W0 W1 from by rw [HW1.out]; exact (below_drewN' (Below.refl _ _) nq).alloc (Nat.le_refl _) _)
  obtain ⟨ρ, hρ⟩ : ∃ ρ, ρ = w.heap.size := ⟨_, rfl⟩
  rw [← hρ]
  have HRR := hid (show W1.heap[ρ]? = some (.cells #[.int .u64 0, .int .u64 0, .int .u64 0, .int .u64 0, .bool false] 88) from by
    rw [(HBX.out.block ρ (by rw [hρ, HS0.out]; omega)), hρ]
    exact HG0.out)
  have HBW := hid (show Below w.heap.size w W1 from HB0.out.trans (HBX.out.mono (by rw [HS0.out]; omega)))
  have HRE := hid hρ
  clear hρ
  go_loopw [6, 7, 9, 10] (fun xv yv uv vv wr => ∃ (x y U0 V0 U1 V1 u2 v2 : Nat) (odd : Bool), xv = .int .u64 x ∧ yv = .int .u64 y ∧ uv = .int .u64 u2 ∧ vv = .int .u64 v2 ∧ Hid (LI X Y K x0 y0 x y U0 V0 U1 V1 u2 v2 odd ∧ wr.heap[g]? = some (.cells #[.int .u64 U0, .int .u64 V0, .int .u64 U1, .int .u64 V1, .bool odd] 88) ∧ Below g W1 wr)) (fun _ yv _ _ _ => (intOf yv).toNat)
  case atStart => exact ⟨X, Y, 0, 0, 1, 0, 0, 1, true, rfl, rfl, rfl, rfl, HI0.out, HG1.out, Below.refl _ _⟩
  case round =>
    obtain ⟨x, y, U0, V0, U1, V1, u2, v2, odd, rfl, rfl, rfl, rfl, HI⟩ := hrel
    have c0 : wr.cell? ⟨g, 0, none⟩ = some (.int .u64 U0) := by simp [World.cell?, HI.out.2.1]
    have c1 : wr.cell? ⟨g, 1, none⟩ = some (.int .u64 V0) := by simp [World.cell?, HI.out.2.1]
    have c2 : wr.cell? ⟨g, 2, none⟩ = some (.int .u64 U1) := by simp [World.cell?, HI.out.2.1]
    have c3 : wr.cell? ⟨g, 3, none⟩ = some (.int .u64 V1) := by simp [World.cell?, HI.out.2.1]
    have c4 : wr.cell? ⟨g, 4, none⟩ = some (.bool odd) := by simp [World.cell?, HI.out.2.1]
    have HRW : Hid (wr.heap[ρ]? = some (.cells #[.int .u64 0, .int .u64 0, .int .u64 0, .int .u64 0, .bool false] 88)) := by
      rw [HI.out.2.2.block ρ (by rw [HRE.out, HGE.out]; omega)]
      exact HRR.out
    have rg : ρ ≠ g := by rw [HRE.out, HGE.out]; omega
    have d0 : wr.cell? ⟨ρ, 0, none⟩ = some (.int .u64 0) := by simp [World.cell?, HRW.out]
    have d1 : wr.cell? ⟨ρ, 1, none⟩ = some (.int .u64 0) := by simp [World.cell?, HRW.out]
    have d2 : wr.cell? ⟨ρ, 2, none⟩ = some (.int .u64 0) := by simp [World.cell?, HRW.out]
    have d3 : wr.cell? ⟨ρ, 3, none⟩ = some (.int .u64 0) := by simp [World.cell?, HRW.out]
    have d4 : wr.cell? ⟨ρ, 4, none⟩ = some (.bool false) := by simp [World.cell?, HRW.out]
    have fr : ∀ i, wr.frozen? ⟨ρ, i, none⟩ = false := fun i => by simp [World.frozen?, HRW.out]
    have fz : ∀ i, wr.frozen? ⟨g, i, none⟩ = false := fun i => by simp [World.frozen?, HI.out.2.1]
    have xb : x < 18446744073709551616 := Nat.lt_of_le_of_lt HI.out.1.xX g6
    have yx := HI.out.1.le
    have vb : v2 < 18446744073709551616 := Nat.lt_of_le_of_lt HI.out.1.vX g6
    have V1b := HI.out.1.small.2.2.2
    have vp := HI.out.1.pos
    have hq := five HRW.out (.int .u64 U0) (.int .u64 V0) (.int .u64 U1) (.int .u64 V1) (.bool odd)
    have hqb := five_below HRW.out (.int .u64 U0) (.int .u64 V0) (.int .u64 U1) (.int .u64 V1) (.bool odd) (HBW.out.trans (HI.out.2.2.mono (show w.heap.size ≤ g by rw [HGE.out]; omega))) (by rw [HRE.out]; exact Nat.le_refl _)
    obtain ⟨wz, hwz⟩ : ∃ wz, (((((wr.setCell ⟨ρ, 0, none⟩ (.int .u64 U0)).setCell ⟨ρ, 1, none⟩ (.int .u64 V0)).setCell ⟨ρ, 2, none⟩ (.int .u64 U1)).setCell ⟨ρ, 3, none⟩ (.int .u64 V1)).setCell ⟨ρ, 4, none⟩ (.bool odd)) = wz := ⟨_, rfl⟩
    rw [hwz] at hq hqb
    have hc0 : wz.cell? ⟨ρ, 0, none⟩ = some (.int .u64 U0) := by simp [World.cell?, hq]
    have hc1 : wz.cell? ⟨ρ, 1, none⟩ = some (.int .u64 V0) := by simp [World.cell?, hq]
    have hc2 : wz.cell? ⟨ρ, 2, none⟩ = some (.int .u64 U1) := by simp [World.cell?, hq]
    have hc3 : wz.cell? ⟨ρ, 3, none⟩ = some (.int .u64 V1) := by simp [World.cell?, hq]
    have hc4 : wz.cell? ⟨ρ, 4, none⟩ = some (.bool odd) := by simp [World.cell?, hq]
    have hbo : ((V0 : Int) != 0) = !decide (V0 = 0) := by
      by_cases e : V0 = 0 <;> simp [e]
    have FIN : Hid (∃ (U0' V0' U1' V1' : Nat) (odd' : Bool), Ending.returned (.tuple #[.agg #[.int .u64 U0, .int .u64 V0, .int .u64 U1, .int .u64 V1, .bool odd], .bool (!decide (V0 = 0))]) = .returned (.tuple #[.agg #[.int .u64 U0', .int .u64 V0', .int .u64 U1', .int .u64 V1', .bool odd'], .bool (!decide (V0' = 0))]) ∧ (U0' < 4294967296 ∧ V0' < 4294967296 ∧ U1' < 4294967296 ∧ V1' < 4294967296) ∧ (V0' ≠ 0 → Nt.Good (val xs) (val ys) U0' V0' U1' V1' odd') ∧ Below w.heap.size w wz.drew) := by
      refine ⟨U0, V0, U1, V1, odd, rfl, HI.out.1.small, fun hne => ?_, hqb.drew⟩
      rw [g3, g4]
      rcases HI.out.1.phase with h | h | h
      · exact absurd h.1 hne
      · exact absurd h.1 hne
      · exact h.2.2.2.2
    have HC := hid hwz
    clear hq hqb hwz
    by_cases hA : v2 ≤ y
    · have vs : v2 < 4294967296 := by
        have e := HI.out.1.high
        have h1 : v2 * v2 ≤ v2 * x := Nat.mul_le_mul_left _ (by omega)
        apply Classical.byContradiction
        intro hc
        have h2 : 4294967296 * 4294967296 ≤ v2 * v2 := Nat.mul_le_mul (by omega) (by omega)
        omega
      by_cases hC : V1 + v2 + y ≤ x
      · go_wp2_with fail
        have HN := HI.out.1.next g1 g2 g6 hA hC
        have hv2 := HN.vX
        have hu2 := HN.uv
        have k0 := st_set HI.out.2.1 0 (.int .u64 U1)
        have k1 := st_set k0 2 (.int .u64 u2)
        have k2 := st_set k1 1 (.int .u64 V1)
        have k3 := st_set k2 3 (.int .u64 v2)
        have k4 := st_set k3 4 (.bool !odd)
        have m0 := st_below HI.out.2.1 0 (.int .u64 U1) HI.out.2.2 (Nat.le_refl _)
        have m1 := st_below k0 2 (.int .u64 u2) m0 (Nat.le_refl _)
        have m2 := st_below k1 1 (.int .u64 V1) m1 (Nat.le_refl _)
        have m3 := st_below k2 3 (.int .u64 v2) m2 (Nat.le_refl _)
        have m4 := st_below k3 4 (.bool !odd) m3 (Nat.le_refl _)
        rw [look_y x y xb, look_v x y U1 u2 xb (by omega), look_v x y V1 v2 xb (by omega)]
        refine ⟨⟨y, x % y, U1, V1, u2, v2, U1 + x / y * u2, V1 + x / y * v2, !odd, rfl, rfl, rfl, rfl, HN, ?_, m4⟩, ?_⟩
        · rw [k4]; rfl
        · have : x % y < y := Nat.mod_lt _ (by omega)
          simp [intOf]; omega
      · go_wp2_with fail
        go_region_with fail
        all_goals go_wp2
        all_goals rw [HC.out]
        all_goals refine bodyPost_ret (by simp [results, Tryd.results69, go_sem, Act.put, hc0, hc1, hc2, hc3, hc4, hbo]; try rfl) rfl ?_
        all_goals exact FIN.out
    · go_wp2_with fail
      go_region_with fail
      all_goals go_wp2
      all_goals rw [HC.out]
      all_goals refine bodyPost_ret (by simp [results, Tryd.results69, go_sem, Act.put, hc0, hc1, hc2, hc3, hc4, hbo]; try rfl) rfl ?_
      all_goals exact FIN.out
end Go.Proofs.YtppihbknldmllaaDoor

/-
  nat.gcdWords: Euclid's rest by rest, of words.
-/
namespace Go.Proofs.YtppihbknldmllaaDoor
open Go.RowKit Nt
set_option linter.unusedSimpArgs false
set_option linter.unusedVariables false
set_option maxRecDepth 20000

set_option maxHeartbeats 1000000 in
theorem gcdWords_c (w : World) (a b : Nat) (ha : a < 18446744073709551616) (hb : b < 18446744073709551616) :
    Calls Tryd.prog 59 #[.int .u64 a, .int .u64 b] w fun e w' => e = .returned (.int .u64 (Nat.gcd a b : Nat)) ∧ ∃ nq, w' = w.drewN nq := by
  go_enter Tryd.func59, Tryd.ntmps59
  go_wp2
  go_loopw [0, 1] (fun xv yv wr => ∃ x y : Nat, (∃ nq, wr = w.drewN nq) ∧ xv = .int .u64 x ∧ yv = .int .u64 y ∧ x < 18446744073709551616 ∧ y < 18446744073709551616 ∧ Hid (Nat.gcd x y = Nat.gcd a b)) (fun _ yv _ => (intOf yv).toNat)
  case atStart => exact ⟨a, b, dr0 _, rfl, rfl, ha, hb, rfl⟩
  case round =>
    obtain ⟨x, y, ⟨nq, rfl⟩, rfl, rfl, hx, hy, HG⟩ := hrel
    by_cases h0 : y = 0
    · subst h0
      go_wp2
      go_ret
      have := HG.out
      rw [Nat.gcd_zero_right] at this
      rw [← this]
      exact ⟨rfl, dr1 _ _⟩
    · have hp : 1 ≤ y := by omega
      clear h0
      have hm : x % y < y := Nat.mod_lt _ (by omega)
      go_wp2_with fail
      go_quiet (fail)
      go_wp2
      go_roundw
      case rel =>
        refine ⟨y, x % y, dr2 _ _ _, rfl, ?_, hy, by omega, ?_⟩
        · go_num
        · rw [← HG.out, Nat.gcd_comm y, ← Nat.gcd_rec, Nat.gcd_comm]; exact rfl
      case measure => simp [intOf]; omega
end Go.Proofs.YtppihbknldmllaaDoor

/-
  euclid.Steps.Rests: the pair behind the steps.
-/
namespace Go.Proofs.YtppihbknldmllaaDoor
open Go.RowKit Nt
set_option linter.unusedSimpArgs false
set_option linter.unusedVariables false
set_option maxRecDepth 20000

theorem cell_keep {w w' : World} {a : Addr} {v : Value} (h : w.cell? a = some v) (hb : Below w.heap.size w w') : w'.cell? a = some v :=
  (World.cell?_of_block (w := w) (hb.block a.block (cell_some_block h))).trans h
theorem keepG {w w' w'' : World} {g : Nat} {v0 v1 v2 v3 : Value} (h : w'.cell? ⟨g, 0, none⟩ = some v0 ∧ w'.cell? ⟨g, 1, none⟩ = some v1 ∧ w'.cell? ⟨g, 2, none⟩ = some v2 ∧ w'.cell? ⟨g, 3, none⟩ = some v3 ∧ Hid (Below w.heap.size w w')) (hb : Below w'.heap.size w' w'') :
    w''.cell? ⟨g, 0, none⟩ = some v0 ∧ w''.cell? ⟨g, 1, none⟩ = some v1 ∧ w''.cell? ⟨g, 2, none⟩ = some v2 ∧ w''.cell? ⟨g, 3, none⟩ = some v3 ∧ Hid (Below w.heap.size w w'') :=
  ⟨cell_keep h.1 hb, cell_keep h.2.1 hb, cell_keep h.2.2.1 hb, cell_keep h.2.2.2.1 hb, h.2.2.2.2.out.trans (hb.mono h.2.2.2.2.out.size)⟩
theorem belowG {w w' : World} {g : Nat} {v0 v1 v2 v3 : Value} (h : w'.cell? ⟨g, 0, none⟩ = some v0 ∧ w'.cell? ⟨g, 1, none⟩ = some v1 ∧ w'.cell? ⟨g, 2, none⟩ = some v2 ∧ w'.cell? ⟨g, 3, none⟩ = some v3 ∧ Hid (Below w.heap.size w w')) : Below w.heap.size w w' := h.2.2.2.2.out

set_option maxHeartbeats 2000000 in
theorem rests_c (w : World) (pa pb : Option Addr) (n c m d : Nat) (xs ys : List Nat) (U0 V0 U1 V1 : Nat) (odd : Bool) (h : Sl w pa n c xs) (h' : Sl w pb m d ys) (hn' : n ≤ 70368744177664) (hmn : m ≤ n)
    (hU0 : U0 < 4294967296) (hV0 : V0 < 4294967296) (hU1 : U1 < 4294967296) (hV1 : V1 < 4294967296) (hg : Nt.Good (val xs) (val ys) U0 V0 U1 V1 odd) :
    Calls Tryd.prog 70 #[.agg #[.int .u64 U0, .int .u64 V0, .int .u64 U1, .int .u64 V1, .bool odd], .slice pa n c, .slice pb m d] w fun e w' => ∃ (a' b' : Nat) (r r' : Option Addr) (k k' : Nat), e = .returned (.tuple #[.slice r (digs a').length k, .slice r' (digs b').length k']) ∧ Sl w' r (digs a').length k (digs a') ∧ Sl w' r' (digs b').length k' (digs b') ∧ Below w.heap.size w w' ∧ b' < a' ∧ a' ≤ val ys ∧ Nat.gcd a' b' = Nat.gcd (val xs) (val ys) := by
  obtain ⟨a', b', hcase, hba, hab, hgcd⟩ := hg
  have hL : max n m = n := by omega
  have hL' : max m n = n := by omega
  have hlt : val ys < 4294967296 ^ n := by
    have := val_lt h'.ok
    rw [h'.len] at this
    exact Nat.lt_of_lt_of_le this (Nat.pow_le_pow_right (by omega) hmn)
  have HX := hid h
  have HY := hid h'
  have FIN := hid (And.intro hba (And.intro hab hgcd))
  rcases hcase with ⟨rfl, e1, e2⟩ | ⟨rfl, e1, e2⟩
  · have D1 := hid (fun (W : World) (hB : Below w.heap.size w W) => differ_c W pb pa m d n c ys xs V0 U0 n (h'.below hB) (h.below hB) hV0 hU0 hL' hn' (by rw [Nat.mul_comm (val ys), Nat.mul_comm (val xs), e1]; omega) (by rw [Nat.mul_comm (val ys), Nat.mul_comm (val xs), e1]; omega))
    have D2 := hid (fun (W : World) (hB : Below w.heap.size w W) => differ_c W pa pb n c m d xs ys U1 V1 n (h.below hB) (h'.below hB) hU1 hV1 hL hn' (by rw [Nat.mul_comm (val ys), Nat.mul_comm (val xs), e2]; omega) (by rw [Nat.mul_comm (val ys), Nat.mul_comm (val xs), e2]; omega))
    have E1 : val ys * V0 - val xs * U0 = a' := by rw [Nat.mul_comm (val ys), Nat.mul_comm (val xs), e1]; omega
    have E2 : val xs * U1 - val ys * V1 = b' := by rw [Nat.mul_comm (val ys), Nat.mul_comm (val xs), e2]; omega
    rw [E1] at D1
    rw [E2] at D2
    clear e1 e2 E1 E2 hlt hba hab hgcd h h' hL hL'
    go_enter Tryd.func70, Tryd.ntmps70
    go_wp2_with fail
    obtain ⟨W0, hW0⟩ : ∃ W, W = w.alloc (.cells #[.int .u64 U0, .int .u64 V0, .int .u64 U1, .int .u64 V1, .bool true] 88) := ⟨_, rfl⟩
    have HB0 := hid (show Below w.heap.size w W0 from by rw [hW0]; exact (Below.refl _ _).alloc (Nat.le_refl _) _)
    have HG0 := hid (show W0.heap[w.heap.size]? = some (.cells #[.int .u64 U0, .int .u64 V0, .int .u64 U1, .int .u64 V1, .bool true] 88) from by rw [hW0]; exact heap_alloc_last _ _)
    rw [← hW0]
    obtain ⟨g, hg⟩ : ∃ g, g = w.heap.size := ⟨_, rfl⟩
    rw [← hg] at HG0 ⊢
    have HGE := hid hg
    clear hg hW0
    have c0 : W0.cell? ⟨g, 0, none⟩ = some (.int .u64 U0) := by simp [World.cell?, HG0.out]
    have c1 : W0.cell? ⟨g, 1, none⟩ = some (.int .u64 V0) := by simp [World.cell?, HG0.out]
    have c2 : W0.cell? ⟨g, 2, none⟩ = some (.int .u64 U1) := by simp [World.cell?, HG0.out]
    have c3 : W0.cell? ⟨g, 3, none⟩ = some (.int .u64 V1) := by simp [World.cell?, HG0.out]
    go_region_held3 (fun w' => w'.cell? ⟨g, 0, none⟩ = some (.int .u64 U0) ∧ w'.cell? ⟨g, 1, none⟩ = some (.int .u64 V0) ∧ w'.cell? ⟨g, 2, none⟩ = some (.int .u64 U1) ∧ w'.cell? ⟨g, 3, none⟩ = some (.int .u64 V1) ∧ Hid (Below w.heap.size w w'))
      (first | (with_reducible exact keepG (w := w) (g := g) (v0 := .int .u64 U0) (v1 := .int .u64 V0) (v2 := .int .u64 U1) (v3 := .int .u64 V1) (by assumption) hBz) | (exact ⟨c0, c1, c2, c3, HB0.out.drew⟩) | fail)
      (first | (go_at_call_of 78 (Value.slice pb m d); refine (D1.out _ (belowG (w := w) (g := g) (v0 := .int .u64 U0) (v1 := .int .u64 V0) (v2 := .int .u64 U1) (v3 := .int .u64 V1) (by with_reducible assumption))).mono ?_; rintro e wu ⟨r1, k1, rfl, R1⟩; have hBz := R1.below; have H1 := hid R1.sl; clear D1)
             | (go_at_call_of 78 (Value.slice pa n c); refine (D2.out _ (belowG (w := w) (g := g) (v0 := .int .u64 U0) (v1 := .int .u64 V0) (v2 := .int .u64 U1) (v3 := .int .u64 V1) (by with_reducible assumption))).mono ?_; rintro e wv ⟨r2, k2, rfl, R2⟩; have hBz := R2.below; have H2 := hid R2.sl; have H1' := hid (H1.out.below hBz); have HS := hid (keepG (w := w) (g := g) (v0 := .int .u64 U0) (v1 := .int .u64 V0) (v2 := .int .u64 U1) (v3 := .int .u64 V1) (by with_reducible assumption) hBz)))
    all_goals go_wp2
    all_goals go_ret2
    all_goals exact ⟨a', b', r1, r2, k1, k2, rfl, H1'.out, H2.out, HS.out.2.2.2.2.out, FIN.out⟩
  · have D1 := hid (fun (W : World) (hB : Below w.heap.size w W) => differ_c W pa pb n c m d xs ys U0 V0 n (h.below hB) (h'.below hB) hU0 hV0 hL hn' (by rw [Nat.mul_comm (val ys), Nat.mul_comm (val xs), e1]; omega) (by rw [Nat.mul_comm (val ys), Nat.mul_comm (val xs), e1]; omega))
    have D2 := hid (fun (W : World) (hB : Below w.heap.size w W) => differ_c W pb pa m d n c ys xs V1 U1 n (h'.below hB) (h.below hB) hV1 hU1 hL' hn' (by rw [Nat.mul_comm (val ys), Nat.mul_comm (val xs), e2]; omega) (by rw [Nat.mul_comm (val ys), Nat.mul_comm (val xs), e2]; omega))
    have E1 : val xs * U0 - val ys * V0 = a' := by rw [Nat.mul_comm (val ys), Nat.mul_comm (val xs), e1]; omega
    have E2 : val ys * V1 - val xs * U1 = b' := by rw [Nat.mul_comm (val ys), Nat.mul_comm (val xs), e2]; omega
    rw [E1] at D1
    rw [E2] at D2
    clear e1 e2 E1 E2 hlt hba hab hgcd h h' hL hL'
    go_enter Tryd.func70, Tryd.ntmps70
    go_wp2_with fail
    obtain ⟨W0, hW0⟩ : ∃ W, W = w.alloc (.cells #[.int .u64 U0, .int .u64 V0, .int .u64 U1, .int .u64 V1, .bool false] 88) := ⟨_, rfl⟩
    have HB0 := hid (show Below w.heap.size w W0 from by rw [hW0]; exact (Below.refl _ _).alloc (Nat.le_refl _) _)
    have HG0 := hid (show W0.heap[w.heap.size]? = some (.cells #[.int .u64 U0, .int .u64 V0, .int .u64 U1, .int .u64 V1, .bool false] 88) from by rw [hW0]; exact heap_alloc_last _ _)
    rw [← hW0]
    obtain ⟨g, hg⟩ : ∃ g, g = w.heap.size := ⟨_, rfl⟩
    rw [← hg] at HG0 ⊢
    have HGE := hid hg
    clear hg hW0
    have c0 : W0.cell? ⟨g, 0, none⟩ = some (.int .u64 U0) := by simp [World.cell?, HG0.out]
    have c1 : W0.cell? ⟨g, 1, none⟩ = some (.int .u64 V0) := by simp [World.cell?, HG0.out]
    have c2 : W0.cell? ⟨g, 2, none⟩ = some (.int .u64 U1) := by simp [World.cell?, HG0.out]
    have c3 : W0.cell? ⟨g, 3, none⟩ = some (.int .u64 V1) := by simp [World.cell?, HG0.out]
    go_region_held3 (fun w' => w'.cell? ⟨g, 0, none⟩ = some (.int .u64 U0) ∧ w'.cell? ⟨g, 1, none⟩ = some (.int .u64 V0) ∧ w'.cell? ⟨g, 2, none⟩ = some (.int .u64 U1) ∧ w'.cell? ⟨g, 3, none⟩ = some (.int .u64 V1) ∧ Hid (Below w.heap.size w w'))
      (first | (with_reducible exact keepG (w := w) (g := g) (v0 := .int .u64 U0) (v1 := .int .u64 V0) (v2 := .int .u64 U1) (v3 := .int .u64 V1) (by assumption) hBz) | (exact ⟨c0, c1, c2, c3, HB0.out.drew⟩) | fail)
      (first | (go_at_call_of 78 (Value.slice pa n c); refine (D1.out _ (belowG (w := w) (g := g) (v0 := .int .u64 U0) (v1 := .int .u64 V0) (v2 := .int .u64 U1) (v3 := .int .u64 V1) (by with_reducible assumption))).mono ?_; rintro e wu ⟨r1, k1, rfl, R1⟩; have hBz := R1.below; have H1 := hid R1.sl; clear D1)
             | (go_at_call_of 78 (Value.slice pb m d); refine (D2.out _ (belowG (w := w) (g := g) (v0 := .int .u64 U0) (v1 := .int .u64 V0) (v2 := .int .u64 U1) (v3 := .int .u64 V1) (by with_reducible assumption))).mono ?_; rintro e wv ⟨r2, k2, rfl, R2⟩; have hBz := R2.below; have H2 := hid R2.sl; have H1' := hid (H1.out.below hBz); have HS := hid (keepG (w := w) (g := g) (v0 := .int .u64 U0) (v1 := .int .u64 V0) (v2 := .int .u64 U1) (v3 := .int .u64 V1) (by with_reducible assumption) hBz)))
    all_goals go_wp2
    all_goals go_ret2
    all_goals exact ⟨a', b', r1, r2, k1, k2, rfl, H1'.out, H2.out, HS.out.2.2.2.2.out, FIN.out⟩
end Go.Proofs.YtppihbknldmllaaDoor

/-
  nat.lower: on in the row of rests, by many places or by one.
-/
namespace Go.Proofs.YtppihbknldmllaaDoor
open Go.RowKit Nt
set_option linter.unusedSimpArgs false
set_option linter.unusedVariables false
set_option maxRecDepth 20000

/-- Two numbers further down the row. -/
def Dn (w w' : World) (A B : Nat) (r r' : Option Addr) (k k' A' B' : Nat) : Prop :=
  Sl w' r (digs A').length k (digs A') ∧ Sl w' r' (digs B').length k' (digs B') ∧ Below w.heap.size w w' ∧ B' < A' ∧ A' ≤ B ∧ Nat.gcd A' B' = Nat.gcd A B

set_option maxHeartbeats 2000000 in
theorem lower_c (w : World) (pa pb : Option Addr) (c d A B n m : Nat) (en : (digs A).length = n) (em : (digs B).length = m) (h : Sl w pa n c (digs A)) (h' : Sl w pb m d (digs B)) (hm : 3 ≤ m) (hBA : B ≤ A) (hs : n + 1 ≤ 70368744177664) :
    Calls Tryd.prog 56 #[.slice pa n c, .slice pb m d] w fun e w' => ∃ (A' B' : Nat) (r r' : Option Addr) (k k' : Nat), e = .returned (.tuple #[.slice r (digs A').length k, .slice r' (digs B').length k']) ∧ Dn w w' A B r r' k k' A' B' := by
  have hmn : m ≤ n := by rw [← en, ← em]; exact digs_length_mono hBA
  have hB0 : B ≠ 0 := by
    intro e
    rw [e, digs_zero] at em
    simp at em
    omega
  have htop : (digs A).getD (n - 1) 0 ≠ 0 := by
    rw [← en]
    exact (top_digs A).resolve_left (by intro e; rw [e] at en; simp at en; omega)
  have LK := hid (fun (W : World) (hW : Below w.heap.size w W) => look_c W pa pb n c m d (digs A) (digs B) (h.below hW) (h'.below hW) (by omega) (by omega) htop hmn (by rw [val_digs, val_digs]; exact hBA))
  have RS := hid (fun (W : World) (hW : Below w.heap.size w W) U0 V0 U1 V1 odd a b c' d' hg => rests_c W pa pb n c m d (digs A) (digs B) U0 V0 U1 V1 odd (h.below hW) (h'.below hW) (by omega) hmn a b c' d' hg)
  have DV := hid (fun (W : World) (hW : Below w.heap.size w W) => div_c W pa pb n c m d (digs A) (digs B) (h.below hW) (h'.below hW) (by rw [val_digs]; exact hB0) hs)
  rw [val_digs, val_digs] at LK RS DV
  have HX := hid h
  have HY := hid h'
  have HEN := hid en
  have HEM := hid em
  have HB0 := hid hB0
  clear h h' htop en em hB0
  go_enter Tryd.func56, Tryd.ntmps56
  go_wp2_with fail
  refine (LK.out _ (Below.refl _ _)).mono ?_
  rintro e w1 ⟨U0, V0, U1, V1, odd, rfl, ⟨s1, s2, s3, s4⟩, hgood, hb⟩
  have HB := hid hb
  have HGOOD := hid hgood
  clear hb hgood LK
  by_cases hV : V0 = 0
  · subst hV
    go_wp2_with fail
    refine (DV.out _ (HB.out.alloc HB.out.size _)).mono ?_
    rintro e w2 ⟨r, cr, s, cs, rfl, R1, R2, T2⟩
    have HR2 := hid R2
    clear R1 R2 T2
    go_wp2_with fail
    go_ret2
    have hB1 := (HB.out.alloc HB.out.size (.cells #[.int .u64 U0, .int .u64 0, .int .u64 U1, .int .u64 V1, .bool odd] 88)).trans (HR2.out.below.mono (Nat.le_trans HB.out.size (by simp)))
    refine ⟨B, A % B, pb, s, d, cs, by rw [HEM.out]; rfl, ?_, HR2.out.sl, hB1, Nat.mod_lt _ (Nat.pos_of_ne_zero HB0.out), Nat.le_refl _, ?_⟩
    · rw [HEM.out]; exact HY.out.below hB1
    · rw [Nat.gcd_comm, ← Nat.gcd_rec, Nat.gcd_comm]
  · have hbo : (!decide (V0 = 0)) = true := by simp [hV]
    have HV := hid hV
    clear hV
    rw [hbo]
    go_wp2_with fail
    refine (RS.out _ (HB.out.alloc HB.out.size _) U0 V0 U1 V1 odd s1 s2 s3 s4 (HGOOD.out HV.out)).mono ?_
    rintro e w2 ⟨a', b', r, r', k, k', rfl, k1, k2, k3, k4, k5, k6⟩
    have K1 := hid k1
    have K2 := hid k2
    have K3 := hid k3
    have K6 := hid k6
    clear k1 k2 k3 k6
    go_wp2_with fail
    go_ret2
    have hB1 := (HB.out.alloc HB.out.size (.cells #[.int .u64 U0, .int .u64 V0, .int .u64 U1, .int .u64 V1, .bool odd] 88)).trans (K3.out.mono (Nat.le_trans HB.out.size (by simp)))
    exact ⟨a', b', r, r', k, k', rfl, K1.out, K2.out, hB1, k4, k5, K6.out⟩
end Go.Proofs.YtppihbknldmllaaDoor

/-
  nat.Gcd: many of Euclid's steps at once, the last ones with words.
-/
namespace Go.Proofs.YtppihbknldmllaaDoor
open Go.RowKit Nt
set_option linter.unusedSimpArgs false
set_option linter.unusedVariables false
set_option maxRecDepth 20000

/-- What Gcd's loop keeps. -/
def GI (w wr : World) (G A B : Nat) (r r' : Option Addr) (k k' : Nat) : Prop :=
  Below w.heap.size w wr ∧ Sl wr r (digs A).length k (digs A) ∧ Sl wr r' (digs B).length k' (digs B) ∧ B ≤ A ∧ Nat.gcd A B = G ∧ (digs A).length + 1 ≤ 70368744177664

theorem cmpN_lt {a b : Nat} (h : a < b) : cmpN a b = -1 := by simp [cmpN, h]
theorem cmpN_ge {a b : Nat} (h : b ≤ a) : ¬ cmpN a b < 0 := by
  unfold cmpN
  rw [if_neg (by omega)]
  split <;> omega
theorem gcd_rest {A B G : Nat} (h : Nat.gcd A B = G) : Nat.gcd B (A % B) = G := by
  rw [Nat.gcd_comm, ← Nat.gcd_rec, Nat.gcd_comm, h]

set_option maxHeartbeats 4000000 in
theorem gcd_c (w : World) (pa pb : Option Addr) (n c m d : Nat) (xs ys : List Nat) (h : Sl w pa n c xs) (h' : Sl w pb m d ys) (hs : n + 1 ≤ 70368744177664) (hs' : m + 1 ≤ 70368744177664) :
    Calls Tryd.prog 47 #[.slice pa n c, .slice pb m d] w fun e w' => ∃ r cr, e = .returned (.slice r (digs (Nat.gcd (val xs) (val ys))).length cr) ∧ Res w w' r cr (Nat.gcd (val xs) (val ys)) := by
  obtain ⟨la, hla⟩ : ∃ la, (digs (val xs)).length = la := ⟨_, rfl⟩
  obtain ⟨lb, hlb⟩ : ∃ lb, (digs (val ys)).length = lb := ⟨_, rfl⟩
  have T1 := hid (trim_s w pa n c la xs hla h)
  have T2 := hid (trim_s w pb m d lb ys hlb h')
  have S1 := h.digs
  have S2 := h'.digs
  have l1 := h.dl
  have l2 := h'.dl
  obtain ⟨X, hX⟩ : ∃ X, val xs = X := ⟨_, rfl⟩
  obtain ⟨Y, hY⟩ : ∃ Y, val ys = Y := ⟨_, rfl⟩
  rw [hX] at hla S1 l1
  rw [hY] at hlb S2 l2
  rw [hX, hY]
  rw [hla] at S1 l1
  rw [hlb] at S2 l2
  have CM := cmp_s w pa pb la c lb d (digs X) (digs Y) S1 S2
  rw [val_digs, val_digs] at CM
  have HCM := hid CM
  have HS1 := hid S1
  have HS2 := hid S2
  have HLA := hid hla
  have HLB := hid hlb
  have hm := h.max
  have hm' := h'.max
  have hc1 := S1.cap
  have hc2 := S2.cap
  unfold maxLen at hm hm'
  obtain ⟨G, hG⟩ : ∃ G, Nat.gcd X Y = G := ⟨_, rfl⟩
  rw [hG]
  have HG := hid hG
  clear h h' S1 S2 hla hlb hX hY CM hG
  rcases Nat.lt_or_ge X Y with hlt | hge
  · have hcm := cmpN_lt hlt
    have GS : Hid (∀ nq, ∃ (A B : Nat) (r r' : Option Addr) (k k' : Nat), B ≤ X + Y ∧ Value.slice pb lb d = .slice r (digs A).length k ∧ Value.slice pa la c = .slice r' (digs B).length k' ∧ Hid (GI w (w.drewN nq) G A B r r' k k')) := by
      intro nq
      refine ⟨Y, X, pb, pa, d, c, by omega, by rw [HLB.out], by rw [HLA.out], ?_⟩
      have hb := below_drewN' (Below.refl w.heap.size w) nq
      refine ⟨hb, ?_, ?_, by omega, by rw [Nat.gcd_comm]; exact HG.out, by rw [HLB.out]; omega⟩
      · rw [HLB.out]; exact HS2.out.below hb
      · rw [HLA.out]; exact HS1.out.below hb
    rw [hcm] at HCM
    clear hcm hlt
    go_enter Tryd.func47, Tryd.ntmps47
    go_wp2_with fail
    refine T1.out.mono ?_
    rintro e w' ⟨rfl, rfl⟩
    go_wp2_with fail
    refine T2.out.mono ?_
    rintro e w' ⟨rfl, rfl⟩
    go_wp2_with fail
    refine HCM.out.mono ?_
    rintro e w'' ⟨rfl, nq, rfl⟩
    have GT := GS.out nq
    clear GS
    go_wp2_with fail
    go_loopg [0, 1] (X + Y) (fun gk s0 s1 wr => ∃ (A B : Nat) (r r' : Option Addr) (k k' : Nat), B ≤ gk ∧ s0 = .slice r (digs A).length k ∧ s1 = .slice r' (digs B).length k' ∧ Hid (GI w' wr G A B r r' k k'))
    case atStart => exact GT
    case round =>
      obtain ⟨A, B, r, r', k, k', hk, rfl, rfl, HR⟩ := hrel
      obtain ⟨La, hLa⟩ : ∃ L, (digs A).length = L := ⟨_, rfl⟩
      obtain ⟨Lb, hLb⟩ : ∃ L, (digs B).length = L := ⟨_, rfl⟩
      have z0 := digs_length_zero B
      rw [hLb] at z0
      rw [hLa, hLb]
      have HLa := hid hLa
      have HLb := hid hLb
      have hLab : Lb ≤ La := by rw [← hLa, ← hLb]; exact digs_length_mono HR.out.2.2.2.1
      have hLs : La + 1 ≤ 70368744177664 := by rw [← hLa]; exact HR.out.2.2.2.2.2
      have SA : Sl wr r La k (digs A) := by rw [← hLa]; exact HR.out.2.1
      have SB : Sl wr r' Lb k' (digs B) := by rw [← hLb]; exact HR.out.2.2.1
      by_cases h3 : 3 ≤ Lb
      · have LW := hid (lower_c wr r r' k k' A B La Lb hLa hLb SA SB h3 HR.out.2.2.2.1 hLs)
        clear hLa hLb SA SB z0
        go_wp2_with fail
        refine LW.out.mono ?_
        rintro e w1 ⟨A', B', r1, r2, k1, k2, rfl, D⟩
        have HD := hid D
        clear D
        go_wp2_with fail
        go_roundg B'
        case measure => have := HD.out.2.2.2.1; have := HD.out.2.2.2.2.1; omega
        case rel =>
          obtain ⟨e1, e2, e3, e4, e5, e6⟩ := HD.out
          obtain ⟨f1, f2, f3, f4, f5, f6⟩ := HR.out
          refine ⟨A', B', r1, r2, k1, k2, Nat.le_refl _, rfl, rfl, f1.trans (e3.mono f1.size), e1, e2, by omega, by rw [e6]; exact f5, ?_⟩
          have := digs_length_mono e5
          have := HLb.out
          omega
      · by_cases hB : B = 0
        · subst hB
          have hz : Lb = 0 := z0.2 rfl
          subst hz
          have hA : A = G := by have := HR.out.2.2.2.2.1; rwa [Nat.gcd_zero_right] at this
          have NM := hid (norm_n wr r La k A SA.numd 70368744177664 (by omega) (by omega))
          clear hLa hLb SA SB z0
          go_wp2_with fail
          refine NM.out.mono ?_
          rintro e w1 ⟨r1, k1, rfl, R1, _⟩
          have HR1 := hid R1
          clear R1
          go_wp2_with fail
          go_ret
          rw [← hA]
          exact ⟨r1, k1, rfl, HR1.out.since HR.out.1⟩
        · have hz : Lb ≠ 0 := fun e => hB (z0.1 e)
          have hB1 : B < 18446744073709551616 := by
            have := val_lt_two (ok_digs B) (by rw [hLb]; omega)
            rwa [val_digs] at this
          have hmod := Nat.mod_lt A (Nat.pos_of_ne_zero hB)
          have hLr : (digs (A % B)).length ≤ 2 := Nat.le_trans (digs_length_mono (Nat.le_of_lt hmod)) (by rw [hLb]; omega)
          have DVc := div_c wr r r' La k Lb k' (digs A) (digs B) SA SB (by rw [val_digs]; exact hB) hLs
          rw [val_digs, val_digs] at DVc
          have HDV := hid DVc
          have WB := hid (fun (W : World) (hW : Below wr.heap.size wr W) => word_c W r' Lb k' (digs B) (SB.below hW) (by omega))
          rw [val_digs] at WB
          have hgG := gcd_rest HR.out.2.2.2.2.1
          have HGG := hid hgG
          have hGb : Nat.gcd B (A % B) < 18446744073709551616 := Nat.lt_of_le_of_lt (Nat.gcd_le_left _ (Nat.pos_of_ne_zero hB)) hB1
          clear hLa hLb SA SB z0 DVc hgG
          go_wp2_with fail
          refine HDV.out.mono ?_
          rintro e w1 ⟨rq, cq, rs, cs, rfl, R1, R2, _⟩
          have HR2 := hid R2
          clear R1 R2
          obtain ⟨Lr, hLrr⟩ : ∃ L, (digs (A % B)).length = L := ⟨_, rfl⟩
          rw [hLrr] at hLr ⊢
          have WR := word_c w1 rs Lr cs (digs (A % B)) (by rw [← hLrr]; exact HR2.out.sl) hLr
          rw [val_digs] at WR
          have HWR := hid WR
          clear hLrr WR
          have hMb : A % B < 18446744073709551616 := by omega
          go_wp2_with fail
          refine (WB.out w1 HR2.out.below).mono ?_
          rintro e w2 ⟨rfl, rfl⟩
          go_wp2_with fail
          refine HWR.out.mono ?_
          rintro e w3 ⟨rfl, rfl⟩
          go_wp2_with fail
          refine (gcdWords_c _ B (A % B) hB1 hMb).mono ?_
          rintro e w4 ⟨rfl, nq2, rfl⟩
          go_wp2_with fail
          refine (ofWord_r _ (Nat.gcd B (A % B)) hGb).mono ?_
          rintro e w5 ⟨r5, k5, rfl, R5⟩
          have HR5 := hid R5
          clear R5
          go_wp2_with fail
          go_ret
          rw [HGG.out] at HR5 ⊢
          exact ⟨r5, k5, rfl, HR5.out.since (HR.out.1.trans ((below_drewN' HR2.out.below nq2).mono HR.out.1.size))⟩
  · have hcm := cmpN_ge hge
    obtain ⟨cm, hcmv⟩ : ∃ cm, cmpN X Y = cm := ⟨_, rfl⟩
    have GS : Hid (∀ nq, ∃ (A B : Nat) (r r' : Option Addr) (k k' : Nat), B ≤ X + Y ∧ Value.slice pa la c = .slice r (digs A).length k ∧ Value.slice pb lb d = .slice r' (digs B).length k' ∧ Hid (GI w (w.drewN nq) G A B r r' k k')) := by
      intro nq
      refine ⟨X, Y, pa, pb, c, d, by omega, by rw [HLA.out], by rw [HLB.out], ?_⟩
      have hb := below_drewN' (Below.refl w.heap.size w) nq
      refine ⟨hb, ?_, ?_, by omega, HG.out, by rw [HLA.out]; omega⟩
      · rw [HLA.out]; exact HS1.out.below hb
      · rw [HLB.out]; exact HS2.out.below hb
    rw [hcmv] at HCM hcm
    clear hcmv hge
    go_enter Tryd.func47, Tryd.ntmps47
    go_wp2_with fail
    refine T1.out.mono ?_
    rintro e w' ⟨rfl, rfl⟩
    go_wp2_with fail
    refine T2.out.mono ?_
    rintro e w' ⟨rfl, rfl⟩
    go_wp2_with fail
    refine HCM.out.mono ?_
    rintro e w'' ⟨rfl, nq, rfl⟩
    have GT := GS.out nq
    clear GS
    go_wp2_with fail
    go_loopg [0, 1] (X + Y) (fun gk s0 s1 wr => ∃ (A B : Nat) (r r' : Option Addr) (k k' : Nat), B ≤ gk ∧ s0 = .slice r (digs A).length k ∧ s1 = .slice r' (digs B).length k' ∧ Hid (GI w' wr G A B r r' k k'))
    case atStart => exact GT
    case round =>
      obtain ⟨A, B, r, r', k, k', hk, rfl, rfl, HR⟩ := hrel
      obtain ⟨La, hLa⟩ : ∃ L, (digs A).length = L := ⟨_, rfl⟩
      obtain ⟨Lb, hLb⟩ : ∃ L, (digs B).length = L := ⟨_, rfl⟩
      have z0 := digs_length_zero B
      rw [hLb] at z0
      rw [hLa, hLb]
      have HLa := hid hLa
      have HLb := hid hLb
      have hLab : Lb ≤ La := by rw [← hLa, ← hLb]; exact digs_length_mono HR.out.2.2.2.1
      have hLs : La + 1 ≤ 70368744177664 := by rw [← hLa]; exact HR.out.2.2.2.2.2
      have SA : Sl wr r La k (digs A) := by rw [← hLa]; exact HR.out.2.1
      have SB : Sl wr r' Lb k' (digs B) := by rw [← hLb]; exact HR.out.2.2.1
      by_cases h3 : 3 ≤ Lb
      · have LW := hid (lower_c wr r r' k k' A B La Lb hLa hLb SA SB h3 HR.out.2.2.2.1 hLs)
        clear hLa hLb SA SB z0
        go_wp2_with fail
        refine LW.out.mono ?_
        rintro e w1 ⟨A', B', r1, r2, k1, k2, rfl, D⟩
        have HD := hid D
        clear D
        go_wp2_with fail
        go_roundg B'
        case measure => have := HD.out.2.2.2.1; have := HD.out.2.2.2.2.1; omega
        case rel =>
          obtain ⟨e1, e2, e3, e4, e5, e6⟩ := HD.out
          obtain ⟨f1, f2, f3, f4, f5, f6⟩ := HR.out
          refine ⟨A', B', r1, r2, k1, k2, Nat.le_refl _, rfl, rfl, f1.trans (e3.mono f1.size), e1, e2, by omega, by rw [e6]; exact f5, ?_⟩
          have := digs_length_mono e5
          have := HLb.out
          omega
      · by_cases hB : B = 0
        · subst hB
          have hz : Lb = 0 := z0.2 rfl
          subst hz
          have hA : A = G := by have := HR.out.2.2.2.2.1; rwa [Nat.gcd_zero_right] at this
          have NM := hid (norm_n wr r La k A SA.numd 70368744177664 (by omega) (by omega))
          clear hLa hLb SA SB z0
          go_wp2_with fail
          refine NM.out.mono ?_
          rintro e w1 ⟨r1, k1, rfl, R1, _⟩
          have HR1 := hid R1
          clear R1
          go_wp2_with fail
          go_ret
          rw [← hA]
          exact ⟨r1, k1, rfl, HR1.out.since HR.out.1⟩
        · have hz : Lb ≠ 0 := fun e => hB (z0.1 e)
          have hB1 : B < 18446744073709551616 := by
            have := val_lt_two (ok_digs B) (by rw [hLb]; omega)
            rwa [val_digs] at this
          have hmod := Nat.mod_lt A (Nat.pos_of_ne_zero hB)
          have hLr : (digs (A % B)).length ≤ 2 := Nat.le_trans (digs_length_mono (Nat.le_of_lt hmod)) (by rw [hLb]; omega)
          have DVc := div_c wr r r' La k Lb k' (digs A) (digs B) SA SB (by rw [val_digs]; exact hB) hLs
          rw [val_digs, val_digs] at DVc
          have HDV := hid DVc
          have WB := hid (fun (W : World) (hW : Below wr.heap.size wr W) => word_c W r' Lb k' (digs B) (SB.below hW) (by omega))
          rw [val_digs] at WB
          have hgG := gcd_rest HR.out.2.2.2.2.1
          have HGG := hid hgG
          have hGb : Nat.gcd B (A % B) < 18446744073709551616 := Nat.lt_of_le_of_lt (Nat.gcd_le_left _ (Nat.pos_of_ne_zero hB)) hB1
          clear hLa hLb SA SB z0 DVc hgG
          go_wp2_with fail
          refine HDV.out.mono ?_
          rintro e w1 ⟨rq, cq, rs, cs, rfl, R1, R2, _⟩
          have HR2 := hid R2
          clear R1 R2
          obtain ⟨Lr, hLrr⟩ : ∃ L, (digs (A % B)).length = L := ⟨_, rfl⟩
          rw [hLrr] at hLr ⊢
          have WR := word_c w1 rs Lr cs (digs (A % B)) (by rw [← hLrr]; exact HR2.out.sl) hLr
          rw [val_digs] at WR
          have HWR := hid WR
          clear hLrr WR
          have hMb : A % B < 18446744073709551616 := by omega
          go_wp2_with fail
          refine (WB.out w1 HR2.out.below).mono ?_
          rintro e w2 ⟨rfl, rfl⟩
          go_wp2_with fail
          refine HWR.out.mono ?_
          rintro e w3 ⟨rfl, rfl⟩
          go_wp2_with fail
          refine (gcdWords_c _ B (A % B) hB1 hMb).mono ?_
          rintro e w4 ⟨rfl, nq2, rfl⟩
          go_wp2_with fail
          refine (ofWord_r _ (Nat.gcd B (A % B)) hGb).mono ?_
          rintro e w5 ⟨r5, k5, rfl, R5⟩
          have HR5 := hid R5
          clear R5
          go_wp2_with fail
          go_ret
          rw [HGG.out] at HR5 ⊢
          exact ⟨r5, k5, rfl, HR5.out.since (HR.out.1.trans ((below_drewN' HR2.out.below nq2).mono HR.out.1.size))⟩
end Go.Proofs.YtppihbknldmllaaDoor
