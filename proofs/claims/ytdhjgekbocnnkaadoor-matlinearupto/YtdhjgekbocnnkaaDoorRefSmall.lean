/-
  The document's own answers: small.
-/
import Derived.Test.YtdhjgekbocnnkaaDoorSetD
import Derived.Test.YtdhjgekbocnnkaaDoorSetB
namespace Go.Proofs.YtdhjgekbocnnkaaDoor
open Go.RowKit Nt
set_option linter.unusedSimpArgs false
set_option linter.unusedVariables false
set_option maxRecDepth 20000

set_option maxHeartbeats 4000000 in
theorem rsmall_c (w : World) (p : Option Addr) (n c d : Nat) (xs : List Nat) (h : Sl w p n c xs) (hs : n ≤ 35184372088832) (hd0 : 0 < d) (hd : d < 4294967296) :
    Calls Tryd.prog 70 #[.slice p n c, .int .u64 d] w fun e w' => ∃ r cr, e = .returned (.tuple #[.slice r (digs (val xs / d)).length cr, .int .u64 (val xs % d : Nat)]) ∧ Ans w w' r cr (val xs / d) := by
  have HX := hid h
  have hm := h.max
  have hc := h.cap
  unfold maxLen at hm
  have hdi : ((d : Int) == 0) = false := beq_eq_false_iff_ne.2 (by omega)
  have M1 := make_u32 n (by omega) w
  obtain ⟨W, hW⟩ : ∃ W, W = w.alloc (.cells (U (List.replicate n 0)).toArray 63) := ⟨_, rfl⟩
  obtain ⟨g, hg⟩ : ∃ g, g = w.heap.size := ⟨_, rfl⟩
  have HB := hid (show Below w.heap.size w W from by rw [hW]; exact (Below.refl _ _).alloc (Nat.le_refl _) _)
  have HG := hid (show Blk W g (List.replicate n 0) from by rw [hW, hg]; exact heap_alloc_last _ _)
  rw [← hW, ← hg] at M1
  have HGE := hid hg
  have HXW := hid (h.below HB.out)
  have HAP : Hid (Apart p xs g) := h.apart (by rw [hg]; exact Nat.le_refl _)
  clear h hW hg
  go_enter Tryd.func70, Tryd.ntmps70
  go_wp2_with fail
  go_loopw [7, 8] (fun v i wr => ∃ k r : Nat, k ≤ n ∧ i = .int .i64 ((k : Int) - 1) ∧ r < d ∧ v = .int .u64 r ∧ ∃ D : List Nat, Hid (D.length = n - k ∧ Ok D ∧ val (xs.drop k) = d * val D + r ∧ Wr W g (List.replicate k 0 ++ D) wr)) (fun _ i _ => (intOf i + 1).toNat)
  case atStart =>
    refine ⟨n, 0, Nat.le_refl _, rfl, hd0, rfl, [], by simp, Ok.nil, ?_, ?_⟩
    · rw [List.drop_of_length_le (by rw [HX.out.len]; exact Nat.le_refl _)]; simp [val]
    · rw [List.append_nil]; exact Wr.refl HG.out
  case round =>
    obtain ⟨k, r, hk, rfl, hr, rfl, D, HD⟩ := hrel
    by_cases hlt : 0 < k
    · obtain ⟨b, o, rfl, hcell⟩ := HD.out.2.2.2.limbs HXW.out.lie HAP.out (k - 1) (by rw [HX.out.len]; omega)
      obtain ⟨x, hx⟩ : ∃ x, xs.getD (k - 1) 0 = x := ⟨_, rfl⟩
      rw [hx] at hcell
      have hxb : x < 4294967296 := by rw [← hx]; exact HX.out.ok.getD _
      have hrb : r < 4294967296 := by omega
      have hblk := Wr.blk HG.out HD.out.2.2.2
      have hc1 := hblk.cell (k - 1) (by simp; omega)
      have hf1 := hblk.frozen (k - 1)
      obtain ⟨v0, hv0⟩ : ∃ v0, (List.replicate k 0 ++ D).getD (k - 1) 0 = v0 := ⟨_, rfl⟩
      rw [hv0] at hc1
      obtain ⟨B, hB⟩ : ∃ B, x + 4294967296 * r = B := ⟨_, rfl⟩
      have hBi : (r : Int) * 4294967296 + (x : Int) = (B : Int) := by omega
      have hBb : B < 18446744073709551616 := by omega
      obtain ⟨q, hq⟩ : ∃ q, B / d = q := ⟨_, rfl⟩
      obtain ⟨r', hr'⟩ : ∃ r', B % d = r' := ⟨_, rfl⟩
      have hqi : (B : Int) / (d : Int) = (q : Int) := by rw [← hq]; simp
      have hri : (B : Int).tmod (d : Int) = (r' : Int) := by rw [← hr']; exact (Int.ofNat_tmod B d).symm
      have hri2 : (B : Int) % (d : Int) = (r' : Int) := by rw [← hr']; simp
      have hqb : q < 4294967296 := by
        rw [← hq]
        apply Nat.div_lt_of_lt_mul
        rw [← hB]
        have : 4294967296 * (r + 1) ≤ 4294967296 * d := Nat.mul_le_mul_left _ hr
        rw [Nat.mul_comm d]
        omega
      have hrd : r' < d := by rw [← hr']; exact Nat.mod_lt _ hd0
      have HXK := hid hx
      have HBE := hid (show x + 4294967296 * r = d * q + r' from by rw [hB, ← hq, ← hr']; exact (Nat.div_add_mod B d).symm)
      clear hx hB hq hr' hblk hv0
      go_wp2
      go_roundw
      case rel =>
        obtain ⟨d1, d2, d3, d4⟩ := HD.out
        have hdr : xs.drop (k - 1) = x :: xs.drop k := by
          rw [drop_cons xs (k - 1) (by rw [HX.out.len]; omega), HXK.out]; congr 2; omega
        refine ⟨k - 1, r', by omega, by go_num, hrd, by first | rfl | go_num, q :: D, by simp [d1]; omega, Ok.cons hqb d2, ?_, ?_⟩
        · rw [hdr]
          simp only [val]
          exact divs_step d3 HBE.out
        · have w1 := Wr.set HG.out d4 (k - 1) q
          have s1 := set_mid (List.replicate (k - 1) 0) [] D [] 0 0 q rfl
          simp only [List.length_replicate, List.nil_append, Nat.add_zero, List.append_nil, List.singleton_append] at s1
          have er : List.replicate k 0 = List.replicate (k - 1) 0 ++ [0] := by
            rw [← List.replicate_succ', show k - 1 + 1 = k from by omega]
          rw [er, List.append_assoc, List.singleton_append, s1] at w1
          exact w1
      case measure => simp [intOf]; omega
    · have hk0 : k = 0 := by omega
      subst hk0
      obtain ⟨d1, d2, d3, d4⟩ := HD.out
      rw [List.drop_zero] at d3
      rw [List.replicate_zero, List.nil_append] at d4
      rw [Nat.sub_zero] at d1
      have hq : val D = val xs / d := by rw [d3, Nat.mul_add_div hd0, Nat.div_eq_of_lt hr, Nat.add_zero]
      have hmd : val xs % d = r := by rw [d3, Nat.mul_add_mod, Nat.mod_eq_of_lt hr]
      have N1 := rnorm_c wr (some ⟨g, 0, none⟩) n n D ⟨d1, Nat.le_refl _, by unfold maxLen; omega, (fun e => by cases e), d2, (Wr.blk HG.out d4).limbs⟩ hs
      rw [hq] at N1
      have HN1 := hid N1
      have HBE := hid (d4.below HB.out (by rw [HGE.out]; exact Nat.le_refl _))
      have HMD := hid hmd
      clear d1 d2 d3 d4 hq hmd N1
      go_wp2_with fail
      refine HN1.out.mono ?_
      rintro e w3 ⟨r3, c3, rfl, A3⟩
      have HA := hid (A3.since HBE.out)
      clear A3
      go_wp2
      go_ret2
      exact ⟨r3, c3, by rw [HMD.out]; rfl, HA.out⟩
end Go.Proofs.YtdhjgekbocnnkaaDoor
