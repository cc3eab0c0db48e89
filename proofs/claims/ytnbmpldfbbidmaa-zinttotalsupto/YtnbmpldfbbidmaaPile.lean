/-
  zint.pile: the sum of a row of the caller's own and another, in place but for limbs that come behind.
-/
import Derived.Test.YtnbmpldfbbidmaaAppZeros
import Derived.Test.YtnbmpldfbbidmaaCalc
import Derived.Test.YtnbmpldfbbidmaaSetD
import Derived.Deep.LoopGhost
namespace Go.Proofs.Ytnbmpldfbbidmaa
open Go.RowKit Nt
set_option linter.unusedSimpArgs false
set_option linter.unusedVariables false

theorem pile_step {M VZ VA VB cy x y z cy' : Nat} (h : VZ + M * cy = VA + VB) (hs : z + 4294967296 * cy' = cy + (x + y)) : VZ + M * z + M * 4294967296 * cy' = (VA + M * x) + (VB + M * y) := by
  have h1 : M * (z + 4294967296 * cy') = M * (cy + (x + y)) := by rw [hs]
  grind
/-- What pile answers. -/
def Piled (w : World) (base : Nat) (v : Value) (n m V : Nat) (e : Ending) (w' : World) : Prop := ∃ (v' : Value) (Z : List Nat), e = .returned v' ∧ Own w' base v' Z ∧ Ok Z ∧ val Z = V ∧ Z.length ≤ max n m + 1 ∧ (∀ k, k < w.heap.size → v.ownBlock ≠ some k → w'.heap[k]? = w.heap[k]?) ∧ (v'.ownBlock = v.ownBlock ∨ ∀ k, v'.ownBlock = some k → w.heap.size ≤ k) ∧ Below base w w'

set_option maxHeartbeats 4000000 in
theorem pile_c (w : World) (base : Nat) (v : Value) (A : List Nat) (q : Option Addr) (m d : Nat) (B : List Nat) (h : Own w base v A) (ho : Ok A) (hb : base ≤ w.heap.size) (hB : Sl w q m d B) (hap : 0 < m → ∀ b o, q = some ⟨b, o, none⟩ → v.ownBlock ≠ some b) (hn : A.length ≤ 1099511627776) (hm : m ≤ 1099511627776) :
    Calls Try.prog 11 #[v, .slice q m d] w (Piled w base v A.length m (val A + val B)) := by
  obtain ⟨n, hnl⟩ : ∃ n, A.length = n := ⟨_, rfl⟩
  obtain ⟨k0, hk0⟩ : ∃ k0, k0 = m - n := ⟨_, rfl⟩
  obtain ⟨p0, cap0, hv, hv0⟩ : ∃ p c, v = .slice p n c ∧ n ≤ c := by
    obtain ⟨h1, h2⟩ := h
    rcases h2 with ⟨rfl, h0⟩ | ⟨g, cap, cur, rfl, _, _, hc, _⟩
    · exact ⟨none, 0, by rw [← hnl, h0], by omega⟩
    · exact ⟨some ⟨g, 0, none⟩, cap, by rw [hnl], by omega⟩
  have HO := hid h
  have HOK := hid ho
  have HB := hid hB
  have HAP := hid hap
  have hmd := hB.cap
  have hdm := hB.max
  unfold maxLen at hdm
  have HV := hid hv
  have HNL := hid hnl
  rw [hnl] at hn
  rw [hnl]
  have hmax : max (0 : Int) ((m : Int) - (n : Int)) = (k0 : Int) := by omega
  have HK0 := hid hk0
  clear h ho hB hap hk0 hnl
  rw [hv]
  clear hv
  have HO1 := hid (HV.out ▸ HO.out)
  go_enter Try.func11, Try.ntmps11
  obtain ⟨L, hL⟩ : ∃ L, L = n + k0 := ⟨_, rfl⟩
  have hLm : m ≤ L := by have := HK0.out; omega
  have hLx : L = max n m := by have := HK0.out; omega
  have hLb : L ≤ 1099511627776 := by omega
  have HL := hid hL
  have HLX := hid hLx
  clear hLx
  have OPEN : Hid (∀ (v1 : Value) (w1 : World), Own w1 base v1 (A ++ List.replicate k0 0) → ∃ p1 c1, v1 = .slice p1 L c1 ∧ L ≤ c1 ∧ c1 ≤ 9223372036854775807 ∧ (0 < L → ∃ g1, p1 = some ⟨g1, 0, none⟩)) := fun v1 w1 h => by
    obtain ⟨h1, h2⟩ := h
    have hl : (A ++ List.replicate k0 0).length = L := by simp; have := HNL.out; have := HL.out; omega
    rcases h2 with ⟨rfl, h0⟩ | ⟨g, cap, cur, rfl, _, _, hc, hm', _⟩
    · exact ⟨none, 0, by rw [← hl, h0], by omega, by omega, fun h => by omega⟩
    · exact ⟨some ⟨g, 0, none⟩, cap, by rw [hl], by omega, by unfold maxLen at hm'; omega, fun _ => ⟨g, rfl⟩⟩
  have hcase : (n < m ∧ (0 : Int) < (m : Int) - (n : Int) ∧ (m : Int) - (n : Int) = (k0 : Int)) ∨ ((m : Int) - (n : Int) ≤ 0 ∧ k0 = 0 ∧ (0 : Int) = (k0 : Int)) := by
    have := HK0.out
    omega
  clear hL
  have hcase' : (n < m ∧ (0 : Int) < (m : Int) - (n : Int) ∧ (m : Int) - (n : Int) = (k0 : Int)) ∨ ((m : Int) - (n : Int) ≤ 0 ∧ Hid ((0 : Int) = (k0 : Int))) := by
    rcases hcase with h | ⟨h1, _, h3⟩
    · exact Or.inl h
    · exact Or.inr ⟨h1, hid h3⟩
  clear hcase
  obtain ⟨A1, hA1⟩ : ∃ A1, A ++ List.replicate k0 0 = A1 := ⟨_, rfl⟩
  have HA1 : Hid (A1.length = L ∧ Ok A1 ∧ val A1 = val A) := by
    refine ⟨?_, ?_, ?_⟩
    · rw [← hA1]; simp; have := HNL.out; have := HL.out; omega
    · rw [← hA1]; exact HOK.out.append (Ok.replicate k0)
    · rw [← hA1, val_append, val_replicate]; omega
  rw [hA1] at OPEN
  have HE1 := hid hA1
  clear hA1
  rcases hcase' with ⟨hc0, hc1, hc2⟩ | ⟨hc1, HC3⟩
  · go_wp2_with (at_builtin; refine wpl_zeros _ rfl (.tmp 8) (.tmp 14) rfl base (.slice p0 n cap0) A rfl HO1.out k0 rfl (by rw [HNL.out]; omega) hb ?_; rw [HE1.out]; intro v1 w1 hown1 hbel1 hoth1 hat1; obtain ⟨p1, c1, rfl, hc11, hc12, hg1⟩ := OPEN.out v1 w1 hown1; have HOWN1 := hid hown1; have HBEL1 := hid hbel1; have HOTH1 := hid hoth1; have HAT1 := hid hat1; have HG1 := hid hg1; clear hown1 hbel1 hoth1 hat1 hg1)
    clear hc0 hc1 hc2
    go_loopg [5, 18] m (fun gk s5 s18 wr => ∃ (k cy : Nat) (Z : List Nat), m - k ≤ gk ∧ k ≤ m ∧ s18 = .int .i64 k ∧ s5 = .int .u64 cy ∧ cy ≤ 1 ∧ Hid (Z.length = k ∧ Ok Z ∧ val Z + 4294967296 ^ k * cy = val (A1.take k) + val (B.take k) ∧ Own wr base (.slice p1 L c1) (Z ++ A1.drop k) ∧ (∀ j, (Value.slice p1 L c1).ownBlock ≠ some j → wr.heap[j]? = w1.heap[j]?) ∧ wr.heap.size = w1.heap.size ∧ Below base w wr))
    case atStart => exact ⟨0, 0, [], Nat.sub_le _ _, Nat.zero_le _, rfl, rfl, by omega, rfl, Ok.nil, by simp [val], by simpa using HOWN1.out, fun _ _ => rfl, rfl, HBEL1.out⟩
    case round =>
      obtain ⟨k, cy, Z, hgk, hk, rfl, rfl, hcy, HR⟩ := hrel
      by_cases hlt : k < m
      · obtain ⟨g1, rfl⟩ := HG1.out (by omega)
        obtain ⟨-, hbg, -, -, -, hcell, hfr, hset, hoth, hsz, hbel⟩ := HR.out.2.2.2.1.atZ
        have hkx : k < A1.length := by rw [HA1.out.1]; omega
        have hkl : k < (Z ++ A1.drop k).length := by rw [List.length_append, HR.out.1, List.length_drop]; omega
        have h1 := hcell k hkl
        rw [get_dropZ Z A1 k HR.out.1 hkx] at h1
        have h2 := hfr k
        obtain ⟨x, hx⟩ : ∃ x, A1.getD k 0 = x := ⟨_, rfl⟩
        rw [hx] at h1
        have hxb : x < 4294967296 := by rw [← hx]; exact HA1.out.2.1.getD k
        obtain ⟨b, o', rfl, hcB⟩ := HB.out.lie k (by rw [HB.out.len]; exact hlt)
        have hbw : b < w.heap.size := cell_some_block hcB
        have hown : v.ownBlock ≠ some b := HAP.out (by omega) b o' rfl
        have hb1 : b ≠ g1 := fun e => by
          rcases HAT1.out with ea | ea
          · exact hown (by rw [HV.out]; rw [← ea, ← e]; rfl)
          · have : g1 = w.heap.size := Option.some.inj ea
            omega
        have hcB2 : wr.cell? ⟨b, o' + k, none⟩ = some (.int .u32 (B.getD k 0)) := by
          have e1 : wr.heap[b]? = w.heap[b]? := (HR.out.2.2.2.2.1 b (fun e => hb1 (Option.some.inj e).symm)).trans (HOTH1.out b hbw (by rw [← HV.out]; exact hown))
          exact (World.cell?_of_block (w := w) e1).trans hcB
        obtain ⟨y, hy⟩ : ∃ y, B.getD k 0 = y := ⟨_, rfl⟩
        rw [hy] at hcB2
        have hyb : y < 4294967296 := by rw [← hy]; exact HB.out.ok.getD k
        have HSET := hid (And.intro hset (And.intro hoth (And.intro hsz (And.intro hbel hbg))))
        have HX := hid hx
        have HY := hid hy
        clear hcell hfr hset hoth hsz hbel hx hy hcB hown hb1 hbg
        go_wp2_with fail
        go_quiet (fail)
        go_wp2_with fail
        go_roundg (m - (k + 1))
        case measure => omega
        case rel =>
          obtain ⟨z1, z2, z3, z4, z5, z6, z7⟩ := HR.out
          have ez : ((cy : Int) + ((x : Int) + (y : Int))) % 4294967296 = (((cy + (x + y)) % 4294967296 : Nat) : Int) := by omega
          have ec : ((cy : Int) + ((x : Int) + (y : Int))) / 4294967296 = (((cy + (x + y)) / 4294967296 : Nat) : Int) := by omega
          rw [ez, ec]
          have hs := HSET.out.1 k ((cy + (x + y)) % 4294967296) hkl
          rw [set_dropZ Z A1 k _ z1 hkx] at hs
          refine ⟨k + 1, (cy + (x + y)) / 4294967296, Z ++ [(cy + (x + y)) % 4294967296], Nat.le_refl _, by omega, by go_num, rfl, by omega, by simp [z1], z2.snoc (by omega), ?_, hs, ?_, ?_, ?_⟩
          · rw [val_snoc, z1, val_take_succ A1 k hkx, val_take_succ B k (by rw [HB.out.len]; exact hlt), HX.out, HY.out, Nat.pow_succ]
            exact pile_step z3 (by omega)
          · intro j hj
            exact (HSET.out.2.1 k j _ (fun e => hj (by rw [e]; rfl))).trans (z5 j hj)
          · exact (HSET.out.2.2.1 _ _).trans z6
          · exact below_drewN' (HSET.out.2.2.2.1 _ _ k _ z7 HSET.out.2.2.2.2) nq
      · have hkm : k = m := by omega
        have HST : Hid (Z.length = m ∧ Ok Z ∧ val Z + 4294967296 ^ m * (cy + val (A1.drop m)) = val A + val B ∧ Own wr base (.slice p1 L c1) (Z ++ A1.drop m) ∧ (∀ j, j < w.heap.size → v.ownBlock ≠ some j → wr.heap[j]? = w.heap[j]?) ∧ w.heap.size ≤ wr.heap.size ∧ Below base w wr) := by
          obtain ⟨z1, z2, z3, z4, z5, z6, z7⟩ := HR.out
          rw [hkm] at z1 z3 z4
          rw [List.take_of_length_le (l := B) (by rw [HB.out.len]; exact Nat.le_refl _)] at z3
          refine ⟨z1, z2, ?_, z4, fun j hj hne => ?_, by rw [z6]; exact HBEL1.out.size, z7⟩
          · have e := val_split A1 m (by rw [HA1.out.1]; omega)
            rw [HA1.out.2.2] at e
            rw [e, Nat.mul_add]
            omega
          · refine (z5 j (fun e => ?_)).trans (HOTH1.out j hj (by rw [← HV.out]; exact hne))
            rcases HAT1.out with ea | ea
            · exact hne (by rw [HV.out, ← ea]; exact e)
            · rw [ea] at e
              have := Option.some.inj e
              omega
        have HWH : Hid ((Value.slice p1 L c1).ownBlock = v.ownBlock ∨ ∀ j, (Value.slice p1 L c1).ownBlock = some j → w.heap.size ≤ j) := by
          rcases HAT1.out with ea | ea
          · exact Or.inl (by rw [HV.out]; exact ea)
          · exact Or.inr (fun j hj => by rw [ea] at hj; have := Option.some.inj hj; omega)
        clear HR hkm hgk HOTH1 HAT1 HOWN1 HBEL1
        go_wp2
        go_loopg [0, 5, 7] (L + 2) (fun gk s0 s5 s7 wr => ∃ (k cy : Nat) (Z R : List Nat) (p2 : Option Addr) (c2 : Nat), L + 2 - k ≤ gk ∧ k ≤ L + 1 ∧ s7 = .int .i64 k ∧ s5 = .int .u64 cy ∧ cy ≤ 1 ∧ s0 = .slice p2 (Z ++ R).length c2 ∧ (Z ++ R).length ≤ c2 ∧ c2 ≤ 9223372036854775807 ∧ Hid (Z.length = k ∧ Ok Z ∧ Ok R ∧ val Z + 4294967296 ^ k * (cy + val R) = val A + val B ∧ ((Z ++ R).length ≤ L ∨ (cy = 0 ∧ (Z ++ R).length = L + 1)) ∧ Own wr base s0 (Z ++ R) ∧ (∀ j, j < w.heap.size → v.ownBlock ≠ some j → wr.heap[j]? = w.heap[j]?) ∧ w.heap.size ≤ wr.heap.size ∧ Below base w wr ∧ (s0.ownBlock = v.ownBlock ∨ ∀ j, s0.ownBlock = some j → w.heap.size ≤ j)))
        case atStart =>
          obtain ⟨z1, z2, z3, z4, z5, z6, z7⟩ := HST.out
          have hl : (Z ++ A1.drop m).length = L := by simp [z1, HA1.out.1]; omega
          exact ⟨m, cy, Z, A1.drop m, p1, c1, by omega, by omega, rfl, rfl, hcy, by rw [hl], by rw [hl]; omega, hc12, z1, z2, HA1.out.2.1.drop m, z3, Or.inl (by rw [hl]; exact Nat.le_refl _), z4, z5, z6, z7, HWH.out⟩
        case round =>
          obtain ⟨k, cy, Z, R, p2, c2, hgk, hk, rfl, rfl, hcy, rfl, hlc, hc2, HR⟩ := hrel
          obtain ⟨n2, hn2⟩ : ∃ n2, (Z ++ R).length = n2 := ⟨_, rfl⟩
          have HN2 := hid hn2
          rw [hn2] at hlc ⊢
          by_cases hc0 : cy = 0
          · subst hc0
            clear hn2
            go_wp2
            go_ret
            obtain ⟨z1, z2, z3, z4, z5, z6, z7, z8, z9, z10⟩ := HR.out
            rw [HN2.out] at z5 z6 z10
            rw [HV.out] at z7 z10
            refine ⟨.slice p2 n2 c2, Z ++ R, rfl, z6, z2.append z3, ?_, ?_, z7, z10, z9⟩
            · rw [val_append, z1]; rw [Nat.zero_add] at z4; exact z4
            · rw [HN2.out, ← HLX.out]; rcases z5 with h | ⟨_, h⟩ <;> omega
          · obtain rfl : cy = 1 := by omega
            have hkn : k ≤ n2 := by rw [← hn2, List.length_append, HR.out.1]; omega
            have hn2L : n2 ≤ L := by
              rcases HR.out.2.2.2.2.1 with h | ⟨h, _⟩
              · rw [← hn2]; exact h
              · cases h
            clear hn2
            by_cases hlt2 : k < n2
            · obtain ⟨x, R', hxR⟩ : ∃ x R', R = x :: R' := by
                cases R with
                | nil => have := HN2.out; simp [HR.out.1] at this; omega
                | cons x R' => exact ⟨x, R', rfl⟩
              subst hxR
              have hne : Z ++ x :: R' ≠ [] := by simp
              obtain ⟨g2, cap2, e2, hbg⟩ := (HN2.out ▸ HR.out.2.2.2.2.2.1).isRowZ hne
              simp only [Value.slice.injEq] at e2
              obtain ⟨rfl, -, rfl⟩ := e2
              obtain ⟨-, -, -, -, -, hcell, hfr, hset, hoth, hsz, hbel⟩ := (HN2.out ▸ HR.out.2.2.2.2.2.1).atZ
              have hkl : k < (Z ++ x :: R').length := by rw [HN2.out]; exact hlt2
              have h1 := hcell k hkl
              have hgx : (Z ++ x :: R').getD k 0 = x := by rw [List.getD_eq_getElem?_getD, List.getElem?_append_right (by rw [HR.out.1]; exact Nat.le_refl _), HR.out.1]; simp
              rw [hgx] at h1
              have h2 := hfr k
              have hxb : x < 4294967296 := HR.out.2.2.1.head
              have HSET := hid (And.intro hset (And.intro hoth (And.intro hsz (And.intro hbel hbg))))
              clear hcell hfr hset hoth hsz hbel hgx hne hbg
              go_wp2_with fail
              go_roundg (L + 2 - (k + 1))
              case measure => omega
              case rel =>
                obtain ⟨z1, z2, z3, z4, z5, z6, z7, z8, z9, z10⟩ := HR.out
                have ez : ((1 : Int) + (x : Int)) % 4294967296 = (((1 + x) % 4294967296 : Nat) : Int) := by omega
                have ec : ((1 : Int) + (x : Int)) / 4294967296 = (((1 + x) / 4294967296 : Nat) : Int) := by omega
                rw [ez, ec]
                have hs := HSET.out.1 k ((1 + x) % 4294967296) hkl
                have hset2 : (Z ++ x :: R').set k ((1 + x) % 4294967296) = (Z ++ [(1 + x) % 4294967296]) ++ R' := by
                  rw [List.set_append_right _ _ (by rw [z1]; exact Nat.le_refl _), z1, Nat.sub_self, List.set_cons_zero, List.append_assoc]
                  rfl
                rw [hset2] at hs
                have hl2 : ((Z ++ [(1 + x) % 4294967296]) ++ R').length = n2 := by rw [← HN2.out]; simp
                refine ⟨k + 1, (1 + x) / 4294967296, Z ++ [(1 + x) % 4294967296], R', some ⟨g2, 0, none⟩, c2, Nat.le_refl _, by omega, by go_num, rfl, by omega, by rw [hl2], by rw [hl2]; exact hlc, hc2, by simp [z1], z2.snoc (by omega), z3.tail, ?_, ?_, hs, ?_, ?_, ?_, ?_⟩
                · rw [← z4, val_snoc, z1, Nat.pow_succ]
                  have e3 : (1 + x) % 4294967296 + 4294967296 * ((1 + x) / 4294967296) = 1 + x := by omega
                  have e4 : val (x :: R') = x + 4294967296 * val R' := rfl
                  rw [e4]
                  generalize (1 + x) % 4294967296 = a at *
                  generalize (1 + x) / 4294967296 = b at *
                  generalize 4294967296 ^ k = M at *
                  generalize val R' = r at *
                  have e5 : M * (a + 4294967296 * b) = M * (1 + x) := by rw [e3]
                  clear z4 e3 hs hset2 hl2
                  grind
                · exact Or.inl (by rw [hl2]; exact hn2L)
                · intro j hj hne
                  rcases z10 with e | e
                  · exact (HSET.out.2.1 k j _ (fun e' => hne (by rw [← e, e', HN2.out]; rfl))).trans (z7 j hj hne)
                  · have := e g2 (by rw [HN2.out]; rfl)
                    exact (HSET.out.2.1 k j _ (by omega)).trans (z7 j hj hne)
                · rw [HSET.out.2.2.1]; exact z8
                · exact HSET.out.2.2.2.1 _ _ k _ z9 HSET.out.2.2.2.2
                · rw [HN2.out] at z10; exact z10
            · have hkn2 : k = n2 := by omega
              have hR0 : R = [] := by
                have h := HN2.out
                rw [List.length_append, HR.out.1] at h
                exact List.length_eq_zero_iff.1 (by omega)
              subst hR0
              have HKN := hid hkn2
              have hbw : base ≤ wr.heap.size := Nat.le_trans hb HR.out.2.2.2.2.2.2.2.1
              have hown2 : Own wr base (.slice p2 n2 c2) Z := by
                have := HR.out.2.2.2.2.2.1
                rw [HN2.out, List.append_nil] at this
                exact this
              have HOWN2 := hid hown2
              have hZl : Z.length = n2 := by rw [HR.out.1]; exact hkn2
              have HZL := hid hZl
              clear hown2 hZl
              subst hkn2
              go_wp2_with (at_builtin; refine append_atZ _ rfl (.tmp 52) (.tmp 53) rfl base (.slice p2 k c2) Z rfl (HOWN2.out.alloc _) ⟨wr.heap.size, 0, none⟩ 1 1 [0] rfl rfl (limbs_lit wr 0 rfl) (by rw [HZL.out]; omega) (by simp; omega) ?_; intro v' w3 hown' hbel hoth hat; obtain ⟨g', cap', rfl, hg'⟩ := hown'.isRowZ (by simp); obtain ⟨-, -, -, hxc, hcm, hcell, hfr, hset, hoth2, hsz, hbel2⟩ := hown'.atZ; have h1 := hcell k (by simp [HZL.out]); have hgx : (Z ++ [0]).getD k 0 = 0 := (by rw [List.getD_eq_getElem?_getD, List.getElem?_append_right (by rw [HZL.out]; exact Nat.le_refl _), HZL.out]; simp); rw [hgx] at h1; have h2 := hfr k; have HALL := hid (And.intro hown' (And.intro hbel (And.intro hoth (And.intro hat (And.intro hset (And.intro hoth2 (And.intro hsz (And.intro hbel2 hg')))))))); have hl3 : (Z ++ [0]).length = k + 1 := (by simp [HZL.out]); rw [hl3] at hxc ⊢; unfold maxLen at hcm; clear hown' hbel hoth hat hcell hfr hset hoth2 hsz hbel2 hgx hg')
              go_roundg (L + 2 - (k + 1))
              case measure => omega
              case rel =>
                obtain ⟨z1, z2, z3, z4, z5, z6, z7, z8, z9, z10⟩ := HR.out
                obtain ⟨y1, y2, y3, y4, y5, y6, y7, y8, y9⟩ := HALL.out
                have hs := y5 k 1 (by simp [HZL.out])
                have hset2 : (Z ++ [0]).set k 1 = Z ++ [1] := by
                  rw [List.set_append_right _ _ (by rw [HZL.out]; exact Nat.le_refl _), HZL.out, Nat.sub_self]
                  rfl
                rw [hset2] at hs
                have hl4 : ((Z ++ [1]) ++ ([] : List Nat)).length = k + 1 := by simp [HZL.out]
                have hl5 : (Z ++ [0]).length = k + 1 := by simp [HZL.out]
                rw [hl5] at hs y4 y5
                have zown : (Value.slice p2 k c2).ownBlock = v.ownBlock ∨ ∀ j, (Value.slice p2 k c2).ownBlock = some j → w.heap.size ≤ j := by
                  have e := HN2.out
                  rw [e] at z10
                  exact z10
                have al : ∀ j, j < w.heap.size → (wr.alloc (.cells #[.int .u32 ((0 : Nat) : Int)] 30)).heap[j]? = wr.heap[j]? := fun j hj => heap_alloc_old' wr _ j (by omega)
                have hgn : (Value.slice (some ⟨g', 0, none⟩) (k + 1) cap').ownBlock = v.ownBlock ∨ ∀ j, (Value.slice (some ⟨g', 0, none⟩) (k + 1) cap').ownBlock = some j → w.heap.size ≤ j := by
                  rcases y4 with e | e
                  · rcases zown with f | f
                    · exact Or.inl (e.trans f)
                    · exact Or.inr (fun j hj => f j (by rw [← e]; exact hj))
                  · refine Or.inr (fun j hj => ?_)
                    rw [e] at hj
                    have := Option.some.inj hj
                    simp at this
                    omega
                have hall3 : ∀ j, j < w.heap.size → v.ownBlock ≠ some j → w3.heap[j]? = w.heap[j]? := fun j hj hne => by
                  refine (y3 j (by simp; omega) (fun e => ?_)).trans ((al j hj).trans (z7 j hj hne))
                  rcases zown with f | f
                  · exact hne (by rw [← f]; exact e)
                  · have := f j e; omega
                refine ⟨k + 1, 0, Z ++ [1], [], some ⟨g', 0, none⟩, cap', Nat.le_refl _, by omega, by go_num, rfl, by omega, by rw [hl4], by rw [hl4]; exact hxc, by omega, by simp [HZL.out], z2.snoc (by omega), Ok.nil, ?_, ?_, ?_, ?_, ?_, ?_, hgn⟩
                · have z4' : val Z + 4294967296 ^ k * (1 + 0) = val A + val B := z4
                  rw [val_snoc, HZL.out, ← z4']
                  simp [val]
                · by_cases hkL : k + 1 ≤ L
                  · exact Or.inl (by rw [hl4]; exact hkL)
                  · exact Or.inr ⟨rfl, by rw [hl4]; omega⟩
                · simpa using hs
                · intro j hj hne
                  refine (y6 k j _ (fun e => ?_)).trans (hall3 j hj hne)
                  rcases hgn with f | f
                  · exact hne (by rw [← f, e]; rfl)
                  · have := f g' rfl; omega
                · rw [y7]
                  have e1 : wr.heap.size ≤ (wr.alloc (.cells #[.int .u32 ((0 : Nat) : Int)] 30)).heap.size := by simp
                  have e2 := y2.size
                  exact Nat.le_trans z8 (Nat.le_trans e1 e2)
                · refine y8 _ _ k _ ?_ y9
                  have e1 := z9.alloc hbw (.cells #[.int .u32 ((0 : Nat) : Int)] 30)
                  exact ⟨y2.os.trans e1.os, y2.tape.trans e1.tape, y2.output.trans e1.output, Nat.le_trans e1.size y2.size, fun i hi => (y2.block i hi).trans (e1.block i hi)⟩
  · go_wp2_with (at_builtin; refine wpl_zeros _ rfl (.tmp 8) (.tmp 14) rfl base (.slice p0 n cap0) A rfl HO1.out k0 (by rw [← HC3.out]; rfl) (by rw [HNL.out]; omega) hb ?_; rw [HE1.out]; intro v1 w1 hown1 hbel1 hoth1 hat1; obtain ⟨p1, c1, rfl, hc11, hc12, hg1⟩ := OPEN.out v1 w1 hown1; have HOWN1 := hid hown1; have HBEL1 := hid hbel1; have HOTH1 := hid hoth1; have HAT1 := hid hat1; have HG1 := hid hg1; clear hown1 hbel1 hoth1 hat1 hg1)
    clear hc1 HC3
    go_loopg [5, 18] m (fun gk s5 s18 wr => ∃ (k cy : Nat) (Z : List Nat), m - k ≤ gk ∧ k ≤ m ∧ s18 = .int .i64 k ∧ s5 = .int .u64 cy ∧ cy ≤ 1 ∧ Hid (Z.length = k ∧ Ok Z ∧ val Z + 4294967296 ^ k * cy = val (A1.take k) + val (B.take k) ∧ Own wr base (.slice p1 L c1) (Z ++ A1.drop k) ∧ (∀ j, (Value.slice p1 L c1).ownBlock ≠ some j → wr.heap[j]? = w1.heap[j]?) ∧ wr.heap.size = w1.heap.size ∧ Below base w wr))
    case atStart => exact ⟨0, 0, [], Nat.sub_le _ _, Nat.zero_le _, rfl, rfl, by omega, rfl, Ok.nil, by simp [val], by simpa using HOWN1.out, fun _ _ => rfl, rfl, HBEL1.out⟩
    case round =>
      obtain ⟨k, cy, Z, hgk, hk, rfl, rfl, hcy, HR⟩ := hrel
      by_cases hlt : k < m
      · obtain ⟨g1, rfl⟩ := HG1.out (by omega)
        obtain ⟨-, hbg, -, -, -, hcell, hfr, hset, hoth, hsz, hbel⟩ := HR.out.2.2.2.1.atZ
        have hkx : k < A1.length := by rw [HA1.out.1]; omega
        have hkl : k < (Z ++ A1.drop k).length := by rw [List.length_append, HR.out.1, List.length_drop]; omega
        have h1 := hcell k hkl
        rw [get_dropZ Z A1 k HR.out.1 hkx] at h1
        have h2 := hfr k
        obtain ⟨x, hx⟩ : ∃ x, A1.getD k 0 = x := ⟨_, rfl⟩
        rw [hx] at h1
        have hxb : x < 4294967296 := by rw [← hx]; exact HA1.out.2.1.getD k
        obtain ⟨b, o', rfl, hcB⟩ := HB.out.lie k (by rw [HB.out.len]; exact hlt)
        have hbw : b < w.heap.size := cell_some_block hcB
        have hown : v.ownBlock ≠ some b := HAP.out (by omega) b o' rfl
        have hb1 : b ≠ g1 := fun e => by
          rcases HAT1.out with ea | ea
          · exact hown (by rw [HV.out]; rw [← ea, ← e]; rfl)
          · have : g1 = w.heap.size := Option.some.inj ea
            omega
        have hcB2 : wr.cell? ⟨b, o' + k, none⟩ = some (.int .u32 (B.getD k 0)) := by
          have e1 : wr.heap[b]? = w.heap[b]? := (HR.out.2.2.2.2.1 b (fun e => hb1 (Option.some.inj e).symm)).trans (HOTH1.out b hbw (by rw [← HV.out]; exact hown))
          exact (World.cell?_of_block (w := w) e1).trans hcB
        obtain ⟨y, hy⟩ : ∃ y, B.getD k 0 = y := ⟨_, rfl⟩
        rw [hy] at hcB2
        have hyb : y < 4294967296 := by rw [← hy]; exact HB.out.ok.getD k
        have HSET := hid (And.intro hset (And.intro hoth (And.intro hsz (And.intro hbel hbg))))
        have HX := hid hx
        have HY := hid hy
        clear hcell hfr hset hoth hsz hbel hx hy hcB hown hb1 hbg
        go_wp2_with fail
        go_quiet (fail)
        go_wp2_with fail
        go_roundg (m - (k + 1))
        case measure => omega
        case rel =>
          obtain ⟨z1, z2, z3, z4, z5, z6, z7⟩ := HR.out
          have ez : ((cy : Int) + ((x : Int) + (y : Int))) % 4294967296 = (((cy + (x + y)) % 4294967296 : Nat) : Int) := by omega
          have ec : ((cy : Int) + ((x : Int) + (y : Int))) / 4294967296 = (((cy + (x + y)) / 4294967296 : Nat) : Int) := by omega
          rw [ez, ec]
          have hs := HSET.out.1 k ((cy + (x + y)) % 4294967296) hkl
          rw [set_dropZ Z A1 k _ z1 hkx] at hs
          refine ⟨k + 1, (cy + (x + y)) / 4294967296, Z ++ [(cy + (x + y)) % 4294967296], Nat.le_refl _, by omega, by go_num, rfl, by omega, by simp [z1], z2.snoc (by omega), ?_, hs, ?_, ?_, ?_⟩
          · rw [val_snoc, z1, val_take_succ A1 k hkx, val_take_succ B k (by rw [HB.out.len]; exact hlt), HX.out, HY.out, Nat.pow_succ]
            exact pile_step z3 (by omega)
          · intro j hj
            exact (HSET.out.2.1 k j _ (fun e => hj (by rw [e]; rfl))).trans (z5 j hj)
          · exact (HSET.out.2.2.1 _ _).trans z6
          · exact below_drewN' (HSET.out.2.2.2.1 _ _ k _ z7 HSET.out.2.2.2.2) nq
      · have hkm : k = m := by omega
        have HST : Hid (Z.length = m ∧ Ok Z ∧ val Z + 4294967296 ^ m * (cy + val (A1.drop m)) = val A + val B ∧ Own wr base (.slice p1 L c1) (Z ++ A1.drop m) ∧ (∀ j, j < w.heap.size → v.ownBlock ≠ some j → wr.heap[j]? = w.heap[j]?) ∧ w.heap.size ≤ wr.heap.size ∧ Below base w wr) := by
          obtain ⟨z1, z2, z3, z4, z5, z6, z7⟩ := HR.out
          rw [hkm] at z1 z3 z4
          rw [List.take_of_length_le (l := B) (by rw [HB.out.len]; exact Nat.le_refl _)] at z3
          refine ⟨z1, z2, ?_, z4, fun j hj hne => ?_, by rw [z6]; exact HBEL1.out.size, z7⟩
          · have e := val_split A1 m (by rw [HA1.out.1]; omega)
            rw [HA1.out.2.2] at e
            rw [e, Nat.mul_add]
            omega
          · refine (z5 j (fun e => ?_)).trans (HOTH1.out j hj (by rw [← HV.out]; exact hne))
            rcases HAT1.out with ea | ea
            · exact hne (by rw [HV.out, ← ea]; exact e)
            · rw [ea] at e
              have := Option.some.inj e
              omega
        have HWH : Hid ((Value.slice p1 L c1).ownBlock = v.ownBlock ∨ ∀ j, (Value.slice p1 L c1).ownBlock = some j → w.heap.size ≤ j) := by
          rcases HAT1.out with ea | ea
          · exact Or.inl (by rw [HV.out]; exact ea)
          · exact Or.inr (fun j hj => by rw [ea] at hj; have := Option.some.inj hj; omega)
        clear HR hkm hgk HOTH1 HAT1 HOWN1 HBEL1
        go_wp2
        go_loopg [0, 5, 7] (L + 2) (fun gk s0 s5 s7 wr => ∃ (k cy : Nat) (Z R : List Nat) (p2 : Option Addr) (c2 : Nat), L + 2 - k ≤ gk ∧ k ≤ L + 1 ∧ s7 = .int .i64 k ∧ s5 = .int .u64 cy ∧ cy ≤ 1 ∧ s0 = .slice p2 (Z ++ R).length c2 ∧ (Z ++ R).length ≤ c2 ∧ c2 ≤ 9223372036854775807 ∧ Hid (Z.length = k ∧ Ok Z ∧ Ok R ∧ val Z + 4294967296 ^ k * (cy + val R) = val A + val B ∧ ((Z ++ R).length ≤ L ∨ (cy = 0 ∧ (Z ++ R).length = L + 1)) ∧ Own wr base s0 (Z ++ R) ∧ (∀ j, j < w.heap.size → v.ownBlock ≠ some j → wr.heap[j]? = w.heap[j]?) ∧ w.heap.size ≤ wr.heap.size ∧ Below base w wr ∧ (s0.ownBlock = v.ownBlock ∨ ∀ j, s0.ownBlock = some j → w.heap.size ≤ j)))
        case atStart =>
          obtain ⟨z1, z2, z3, z4, z5, z6, z7⟩ := HST.out
          have hl : (Z ++ A1.drop m).length = L := by simp [z1, HA1.out.1]; omega
          exact ⟨m, cy, Z, A1.drop m, p1, c1, by omega, by omega, rfl, rfl, hcy, by rw [hl], by rw [hl]; omega, hc12, z1, z2, HA1.out.2.1.drop m, z3, Or.inl (by rw [hl]; exact Nat.le_refl _), z4, z5, z6, z7, HWH.out⟩
        case round =>
          obtain ⟨k, cy, Z, R, p2, c2, hgk, hk, rfl, rfl, hcy, rfl, hlc, hc2, HR⟩ := hrel
          obtain ⟨n2, hn2⟩ : ∃ n2, (Z ++ R).length = n2 := ⟨_, rfl⟩
          have HN2 := hid hn2
          rw [hn2] at hlc ⊢
          by_cases hc0 : cy = 0
          · subst hc0
            clear hn2
            go_wp2
            go_ret
            obtain ⟨z1, z2, z3, z4, z5, z6, z7, z8, z9, z10⟩ := HR.out
            rw [HN2.out] at z5 z6 z10
            rw [HV.out] at z7 z10
            refine ⟨.slice p2 n2 c2, Z ++ R, rfl, z6, z2.append z3, ?_, ?_, z7, z10, z9⟩
            · rw [val_append, z1]; rw [Nat.zero_add] at z4; exact z4
            · rw [HN2.out, ← HLX.out]; rcases z5 with h | ⟨_, h⟩ <;> omega
          · obtain rfl : cy = 1 := by omega
            have hkn : k ≤ n2 := by rw [← hn2, List.length_append, HR.out.1]; omega
            have hn2L : n2 ≤ L := by
              rcases HR.out.2.2.2.2.1 with h | ⟨h, _⟩
              · rw [← hn2]; exact h
              · cases h
            clear hn2
            by_cases hlt2 : k < n2
            · obtain ⟨x, R', hxR⟩ : ∃ x R', R = x :: R' := by
                cases R with
                | nil => have := HN2.out; simp [HR.out.1] at this; omega
                | cons x R' => exact ⟨x, R', rfl⟩
              subst hxR
              have hne : Z ++ x :: R' ≠ [] := by simp
              obtain ⟨g2, cap2, e2, hbg⟩ := (HN2.out ▸ HR.out.2.2.2.2.2.1).isRowZ hne
              simp only [Value.slice.injEq] at e2
              obtain ⟨rfl, -, rfl⟩ := e2
              obtain ⟨-, -, -, -, -, hcell, hfr, hset, hoth, hsz, hbel⟩ := (HN2.out ▸ HR.out.2.2.2.2.2.1).atZ
              have hkl : k < (Z ++ x :: R').length := by rw [HN2.out]; exact hlt2
              have h1 := hcell k hkl
              have hgx : (Z ++ x :: R').getD k 0 = x := by rw [List.getD_eq_getElem?_getD, List.getElem?_append_right (by rw [HR.out.1]; exact Nat.le_refl _), HR.out.1]; simp
              rw [hgx] at h1
              have h2 := hfr k
              have hxb : x < 4294967296 := HR.out.2.2.1.head
              have HSET := hid (And.intro hset (And.intro hoth (And.intro hsz (And.intro hbel hbg))))
              clear hcell hfr hset hoth hsz hbel hgx hne hbg
              go_wp2_with fail
              go_roundg (L + 2 - (k + 1))
              case measure => omega
              case rel =>
                obtain ⟨z1, z2, z3, z4, z5, z6, z7, z8, z9, z10⟩ := HR.out
                have ez : ((1 : Int) + (x : Int)) % 4294967296 = (((1 + x) % 4294967296 : Nat) : Int) := by omega
                have ec : ((1 : Int) + (x : Int)) / 4294967296 = (((1 + x) / 4294967296 : Nat) : Int) := by omega
                rw [ez, ec]
                have hs := HSET.out.1 k ((1 + x) % 4294967296) hkl
                have hset2 : (Z ++ x :: R').set k ((1 + x) % 4294967296) = (Z ++ [(1 + x) % 4294967296]) ++ R' := by
                  rw [List.set_append_right _ _ (by rw [z1]; exact Nat.le_refl _), z1, Nat.sub_self, List.set_cons_zero, List.append_assoc]
                  rfl
                rw [hset2] at hs
                have hl2 : ((Z ++ [(1 + x) % 4294967296]) ++ R').length = n2 := by rw [← HN2.out]; simp
                refine ⟨k + 1, (1 + x) / 4294967296, Z ++ [(1 + x) % 4294967296], R', some ⟨g2, 0, none⟩, c2, Nat.le_refl _, by omega, by go_num, rfl, by omega, by rw [hl2], by rw [hl2]; exact hlc, hc2, by simp [z1], z2.snoc (by omega), z3.tail, ?_, ?_, hs, ?_, ?_, ?_, ?_⟩
                · rw [← z4, val_snoc, z1, Nat.pow_succ]
                  have e3 : (1 + x) % 4294967296 + 4294967296 * ((1 + x) / 4294967296) = 1 + x := by omega
                  have e4 : val (x :: R') = x + 4294967296 * val R' := rfl
                  rw [e4]
                  generalize (1 + x) % 4294967296 = a at *
                  generalize (1 + x) / 4294967296 = b at *
                  generalize 4294967296 ^ k = M at *
                  generalize val R' = r at *
                  have e5 : M * (a + 4294967296 * b) = M * (1 + x) := by rw [e3]
                  clear z4 e3 hs hset2 hl2
                  grind
                · exact Or.inl (by rw [hl2]; exact hn2L)
                · intro j hj hne
                  rcases z10 with e | e
                  · exact (HSET.out.2.1 k j _ (fun e' => hne (by rw [← e, e', HN2.out]; rfl))).trans (z7 j hj hne)
                  · have := e g2 (by rw [HN2.out]; rfl)
                    exact (HSET.out.2.1 k j _ (by omega)).trans (z7 j hj hne)
                · rw [HSET.out.2.2.1]; exact z8
                · exact HSET.out.2.2.2.1 _ _ k _ z9 HSET.out.2.2.2.2
                · rw [HN2.out] at z10; exact z10
            · have hkn2 : k = n2 := by omega
              have hR0 : R = [] := by
                have h := HN2.out
                rw [List.length_append, HR.out.1] at h
                exact List.length_eq_zero_iff.1 (by omega)
              subst hR0
              have HKN := hid hkn2
              have hbw : base ≤ wr.heap.size := Nat.le_trans hb HR.out.2.2.2.2.2.2.2.1
              have hown2 : Own wr base (.slice p2 n2 c2) Z := by
                have := HR.out.2.2.2.2.2.1
                rw [HN2.out, List.append_nil] at this
                exact this
              have HOWN2 := hid hown2
              have hZl : Z.length = n2 := by rw [HR.out.1]; exact hkn2
              have HZL := hid hZl
              clear hown2 hZl
              subst hkn2
              go_wp2_with (at_builtin; refine append_atZ _ rfl (.tmp 52) (.tmp 53) rfl base (.slice p2 k c2) Z rfl (HOWN2.out.alloc _) ⟨wr.heap.size, 0, none⟩ 1 1 [0] rfl rfl (limbs_lit wr 0 rfl) (by rw [HZL.out]; omega) (by simp; omega) ?_; intro v' w3 hown' hbel hoth hat; obtain ⟨g', cap', rfl, hg'⟩ := hown'.isRowZ (by simp); obtain ⟨-, -, -, hxc, hcm, hcell, hfr, hset, hoth2, hsz, hbel2⟩ := hown'.atZ; have h1 := hcell k (by simp [HZL.out]); have hgx : (Z ++ [0]).getD k 0 = 0 := (by rw [List.getD_eq_getElem?_getD, List.getElem?_append_right (by rw [HZL.out]; exact Nat.le_refl _), HZL.out]; simp); rw [hgx] at h1; have h2 := hfr k; have HALL := hid (And.intro hown' (And.intro hbel (And.intro hoth (And.intro hat (And.intro hset (And.intro hoth2 (And.intro hsz (And.intro hbel2 hg')))))))); have hl3 : (Z ++ [0]).length = k + 1 := (by simp [HZL.out]); rw [hl3] at hxc ⊢; unfold maxLen at hcm; clear hown' hbel hoth hat hcell hfr hset hoth2 hsz hbel2 hgx hg')
              go_roundg (L + 2 - (k + 1))
              case measure => omega
              case rel =>
                obtain ⟨z1, z2, z3, z4, z5, z6, z7, z8, z9, z10⟩ := HR.out
                obtain ⟨y1, y2, y3, y4, y5, y6, y7, y8, y9⟩ := HALL.out
                have hs := y5 k 1 (by simp [HZL.out])
                have hset2 : (Z ++ [0]).set k 1 = Z ++ [1] := by
                  rw [List.set_append_right _ _ (by rw [HZL.out]; exact Nat.le_refl _), HZL.out, Nat.sub_self]
                  rfl
                rw [hset2] at hs
                have hl4 : ((Z ++ [1]) ++ ([] : List Nat)).length = k + 1 := by simp [HZL.out]
                have hl5 : (Z ++ [0]).length = k + 1 := by simp [HZL.out]
                rw [hl5] at hs y4 y5
                have zown : (Value.slice p2 k c2).ownBlock = v.ownBlock ∨ ∀ j, (Value.slice p2 k c2).ownBlock = some j → w.heap.size ≤ j := by
                  have e := HN2.out
                  rw [e] at z10
                  exact z10
                have al : ∀ j, j < w.heap.size → (wr.alloc (.cells #[.int .u32 ((0 : Nat) : Int)] 30)).heap[j]? = wr.heap[j]? := fun j hj => heap_alloc_old' wr _ j (by omega)
                have hgn : (Value.slice (some ⟨g', 0, none⟩) (k + 1) cap').ownBlock = v.ownBlock ∨ ∀ j, (Value.slice (some ⟨g', 0, none⟩) (k + 1) cap').ownBlock = some j → w.heap.size ≤ j := by
                  rcases y4 with e | e
                  · rcases zown with f | f
                    · exact Or.inl (e.trans f)
                    · exact Or.inr (fun j hj => f j (by rw [← e]; exact hj))
                  · refine Or.inr (fun j hj => ?_)
                    rw [e] at hj
                    have := Option.some.inj hj
                    simp at this
                    omega
                have hall3 : ∀ j, j < w.heap.size → v.ownBlock ≠ some j → w3.heap[j]? = w.heap[j]? := fun j hj hne => by
                  refine (y3 j (by simp; omega) (fun e => ?_)).trans ((al j hj).trans (z7 j hj hne))
                  rcases zown with f | f
                  · exact hne (by rw [← f]; exact e)
                  · have := f j e; omega
                refine ⟨k + 1, 0, Z ++ [1], [], some ⟨g', 0, none⟩, cap', Nat.le_refl _, by omega, by go_num, rfl, by omega, by rw [hl4], by rw [hl4]; exact hxc, by omega, by simp [HZL.out], z2.snoc (by omega), Ok.nil, ?_, ?_, ?_, ?_, ?_, ?_, hgn⟩
                · have z4' : val Z + 4294967296 ^ k * (1 + 0) = val A + val B := z4
                  rw [val_snoc, HZL.out, ← z4']
                  simp [val]
                · by_cases hkL : k + 1 ≤ L
                  · exact Or.inl (by rw [hl4]; exact hkL)
                  · exact Or.inr ⟨rfl, by rw [hl4]; omega⟩
                · simpa using hs
                · intro j hj hne
                  refine (y6 k j _ (fun e => ?_)).trans (hall3 j hj hne)
                  rcases hgn with f | f
                  · exact hne (by rw [← f, e]; rfl)
                  · have := f g' rfl; omega
                · rw [y7]
                  have e1 : wr.heap.size ≤ (wr.alloc (.cells #[.int .u32 ((0 : Nat) : Int)] 30)).heap.size := by simp
                  have e2 := y2.size
                  exact Nat.le_trans z8 (Nat.le_trans e1 e2)
                · refine y8 _ _ k _ ?_ y9
                  have e1 := z9.alloc hbw (.cells #[.int .u32 ((0 : Nat) : Int)] 30)
                  exact ⟨y2.os.trans e1.os, y2.tape.trans e1.tape, y2.output.trans e1.output, Nat.le_trans e1.size y2.size, fun i hi => (y2.block i hi).trans (e1.block i hi)⟩
end Go.Proofs.Ytnbmpldfbbidmaa
