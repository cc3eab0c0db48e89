/-
  nat.digit: one limb of a quotient; what is left stays in place.
-/
import Derived.Test.YtejhbjcgacblfaaGuessWalk
import Derived.Test.YtejhbjcgacblfaaTakeTimes
import Derived.Test.YtejhbjcgacblfaaAddTo
namespace Go.Proofs.Ytejhbjcgacblfaa
open Go.RowKit Nt
set_option linter.unusedSimpArgs false
set_option linter.unusedVariables false

theorem digit_right {A V Z P bo q : Nat} (h : Z + V * q = A + P * bo) (hZ : Z < P) (hq : V * q ≤ A) : bo = 0 ∧ Z = A - V * q := by
  have hb : bo = 0 := by
    apply Classical.byContradiction
    intro hne
    have : P * 1 ≤ P * bo := Nat.mul_le_mul_left _ (by omega)
    omega
  subst hb
  rw [Nat.mul_zero] at h
  omega
theorem digit_more {A V Z P bo q : Nat} (h : Z + V * (q + 1) = A + P * bo) (hb : bo ≤ 1) (hq : A < V * (q + 1)) : bo = 1 ∧ Z + V + V * q = A + P := by
  have : bo = 1 := by
    apply Classical.byContradiction
    intro hne
    have h0 : bo = 0 := by omega
    rw [h0, Nat.mul_zero] at h
    omega
  subst this
  rw [Nat.mul_add, Nat.mul_one, Nat.mul_one] at h
  exact ⟨rfl, by omega⟩
theorem digit_back {A V Z Z' P cy q : Nat} (h : Z + V + V * q = A + P) (h2 : Z' + P * cy = Z + V) (hc : cy ≤ 1) (hZ' : Z' < P) (hq : V * q ≤ A) (hr : A - V * q < P) : Z' = A - V * q := by
  have : cy = 1 := by
    apply Classical.byContradiction
    intro hne
    have h0 : cy = 0 := by omega
    rw [h0, Nat.mul_zero] at h2
    omega
  subst this
  rw [Nat.mul_one] at h2
  omega

set_option maxHeartbeats 4000000 in
theorem digit_c (w : World) (g : Nat) (pre A post : List Nat) (n m c : Nat) (q : Option Addr) (d : Nat) (B : List Nat) (hl : A.length = m) (hm : m = n + 1) (hmc : m ≤ c) (hcm : c ≤ maxLen)
    (hg : Blk w g (pre ++ A ++ post)) (hA : Ok A) (hB : Sl w q n d B) (hq : Apart q B g) (hn2 : 2 ≤ n) (htop : 2147483648 ≤ B.getD (n - 1) 0) (hlt : val A < val B * 4294967296) :
    Calls Try.prog 70 #[.slice (some ⟨g, pre.length, none⟩) m c, .slice q n d] w fun e w' =>
      ∃ Z : List Nat, Z.length = m ∧ Ok Z ∧ val Z = val A % val B ∧ e = .returned (.int .u32 (val A / val B : Nat)) ∧ Wr w g (pre ++ Z ++ post) w' := by
  subst hm
  have hV : 0 < val B := by
    apply Classical.byContradiction
    intro hc
    have : val B = 0 := by omega
    rw [this] at hlt
    omega
  have HU := hid (show Sl w (some ⟨g, pre.length, none⟩) (n + 1) c A from ⟨hl, hmc, hcm, (fun e => by cases e), hA, Limbs.of_block hg⟩)
  have G1 := hid (guess_c w (some ⟨g, pre.length, none⟩) q n (n + 1) c d A B HU.out hB rfl hn2 htop hlt hV)
  have HG := hid hg
  have HA := hid hA
  have HB := hid hB
  have HQ := hid hq
  have HL := hid hl
  have hV' := hid hV
  obtain ⟨qv, hqv⟩ : ∃ qv, val A / val B = qv := ⟨_, rfl⟩
  have hdm : val B * qv + val A % val B = val A := by rw [← hqv]; exact Nat.div_add_mod _ _
  have hml : val A % val B < val B := Nat.mod_lt _ hV
  have hmod : Hid (val A - val B * qv = val A % val B ∧ val B * qv ≤ val A ∧ val A < val B * (qv + 1)) := by
    refine ⟨by omega, by omega, ?_⟩
    rw [Nat.mul_add, Nat.mul_one]
    omega
  have hbp := val_lt hB.ok
  rw [hB.len] at hbp
  have hmp : Hid (val A - val B * qv < 4294967296 ^ (n + 1)) := by
    show val A - val B * qv < 4294967296 ^ (n + 1)
    have : val A - val B * qv < 4294967296 ^ n := by omega
    exact Nat.lt_of_lt_of_le this (Nat.pow_le_pow_right (by omega) (by omega))
  obtain ⟨po, hpo⟩ : ∃ po, pre.length = po := ⟨_, rfl⟩
  have HPO := hid hpo
  rw [hqv]
  rw [hpo] at G1 ⊢
  have HQV := hid hqv
  clear hl hg hA hB hq htop hlt hdm hml hbp hqv hpo hV
  go_enter Try.func70, Try.ntmps70
  go_wp2_with fail
  refine G1.out.mono ?_
  rintro e W1 ⟨x, gs, rfl, nq, hW1⟩
  have HW1 : Hid (Wr w g (pre ++ A ++ post) W1) := by rw [hW1]; exact (Wr.refl HG.out).drewN nq
  have HBel : Hid (Below w.heap.size w W1) := by rw [hW1]; exact below_drewN' (Below.refl _ _) nq
  have hxl := gs.lim
  have HGS := hid gs
  clear hW1 gs G1
  have TT := takeTimes_c W1 g pre A post (n + 1) c q n d B x HL.out hmc hcm (Wr.blk HG.out HW1.out) HA.out (HB.out.below HBel.out) HQ.out rfl hxl
  rw [HPO.out] at TT
  have HTT := hid TT
  clear TT
  go_wp2_with fail
  refine HTT.out.mono ?_
  rintro e W2 ⟨Z, bo, z1, z2, z3, z4, rfl, z5⟩
  have hz := val_lt z2
  rw [z1] at hz
  have HZ := hid (And.intro z1 (And.intro z2 (And.intro z4 (And.intro z5 hz))))
  clear z1 z2 z4 z5 hz
  by_cases hx : x = qv
  · have hr := digit_right (by have := HZ.out.2.2.1; rw [hx] at this; exact this) HZ.out.2.2.2.2 hmod.out.2.1
    obtain ⟨hb0, hzv⟩ := hr
    subst hb0
    have HZV := hid hzv
    have HXQ := hid hx
    clear hzv hx
    go_wp2
    go_ret
    obtain ⟨z1, z2, z4, z5, hz⟩ := HZ.out
    exact ⟨Z, z1, z2, by rw [HZV.out, hmod.out.1], by rw [← HXQ.out]; rfl, HW1.out.trans z5⟩
  · have hx1 : x = qv + 1 := by
      have h1 := HGS.out.low
      have h2 := HGS.out.high
      rw [HQV.out] at h1 h2
      omega
    obtain ⟨hb1, hzv⟩ := digit_more (by have := HZ.out.2.2.1; rw [hx1] at this; exact this) z3 hmod.out.2.2
    subst hb1
    have AD := addTo_c W2 g pre Z post (n + 1) c q n d B HZ.out.1 hmc hcm (Wr.blk (Wr.blk HG.out HW1.out) HZ.out.2.2.2.1) HZ.out.2.1 ⟨HB.out.len, HB.out.cap, HB.out.max, HB.out.nil, HB.out.ok, HZ.out.2.2.2.1.limbs (HB.out.below HBel.out).lie HQ.out⟩ HQ.out (by omega)
    rw [HPO.out] at AD
    have HAD := hid AD
    have HZV := hid hzv
    have hx1i : ((x : Int) - 1) = (qv : Int) := by omega
    have hxp : 1 ≤ x := by omega
    have HX1 := hid hx1
    clear hx1 hzv hx AD
    go_wp2_with fail
    refine HAD.out.mono ?_
    rintro e W3 ⟨Z', cy, y1, y2, y3, y4, rfl, y5⟩
    have hz' := val_lt y2
    rw [y1] at hz'
    have hfin := digit_back HZV.out y4 y3 hz' hmod.out.2.1 hmp.out
    have HF := hid (And.intro y1 (And.intro y2 (And.intro hfin y5)))
    clear y1 y2 y3 y4 y5 hz' hfin
    go_wp2
    go_ret
    obtain ⟨f1, f2, f3, f4⟩ := HF.out
    exact ⟨Z', f1, f2, by rw [f3, hmod.out.1], ret_int (by have := HX1.out; omega), (HW1.out.trans HZ.out.2.2.2.1).trans f4⟩
end Go.Proofs.Ytejhbjcgacblfaa
