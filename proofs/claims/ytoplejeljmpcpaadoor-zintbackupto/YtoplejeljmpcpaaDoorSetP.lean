import Derived.Test.YtoplejeljmpcpaaDoorSetU
import Derived.Test.YtoplejeljmpcpaaDoorSetC
import Derived.Test.YtoplejeljmpcpaaDoorSetD
import Derived.Test.YtoplejeljmpcpaaDoorSetB
import Derived.Test.YtoplejeljmpcpaaDoorSetK
import Derived.Laws.AppendOwnNone
/-
  The document's own answers: Two, Shl, Shr.
-/
namespace Go.Proofs.YtoplejeljmpcpaaDoor
open Go.RowKit Nt
set_option linter.unusedSimpArgs false
set_option linter.unusedVariables false
set_option maxRecDepth 20000

theorem len_of_bits {v b K : Nat} (hv : v < 2 ^ b) (hb : b ≤ 32 * K) : (digs v).length ≤ K := by
  apply digs_length_le
  have h8 : (4294967296 : Nat) ^ K = 2 ^ (32 * K) := by rw [Nat.pow_mul]
  rw [h8]
  exact Nat.lt_of_lt_of_le hv (Nat.pow_le_pow_right (by omega) hb)
theorem tmod32 (D : Nat) : ((D : Int)).tmod 4294967296 % 4294967296 = ((D % 4294967296 : Nat) : Int) := by
  rw [Int.tmod_eq_emod_of_nonneg (by omega)]; omega

theorem shrl_get (P : Nat) : ∀ (l : List Nat) (j : Nat), j < l.length → (shrl P l).getD j 0 = (l.getD j 0 + 4294967296 * l.getD (j + 1) 0) / P % 4294967296
  | [], j, h => by simp at h
  | x :: r, 0, h => by cases r <;> simp [shrl]
  | x :: r, j + 1, h => by
    have := shrl_get P r j (by simpa using h)
    simpa [shrl] using this

end Go.Proofs.YtoplejeljmpcpaaDoor

/-
  The document's own answers: small.
-/
namespace Go.Proofs.YtoplejeljmpcpaaDoor
open Go.RowKit Nt
set_option linter.unusedSimpArgs false
set_option linter.unusedVariables false
set_option maxRecDepth 20000

set_option maxHeartbeats 4000000 in
theorem rsmall_c (w : World) (p : Option Addr) (n c d : Nat) (xs : List Nat) (h : Sl w p n c xs) (hs : n ≤ 35184372088832) (hd0 : 0 < d) (hd : d < 4294967296) :
    Calls Tryd.prog 51 #[.slice p n c, .int .u64 d] w fun e w' => ∃ r cr, e = .returned (.tuple #[.slice r (digs (val xs / d)).length cr, .int .u64 (val xs % d : Nat)]) ∧ Ans w w' r cr (val xs / d) := by
  have HX := hid h
  have hm := h.max
  have hc := h.cap
  unfold maxLen at hm
  have hdi : ((d : Int) == 0) = false := beq_eq_false_iff_ne.2 (by omega)
  have M1 := make_u32 n (by omega) w
  obtain ⟨W, hW⟩ : ∃ W, W = w.alloc (.cells (U (List.replicate n 0)).toArray 46) := ⟨_, rfl⟩
  obtain ⟨g, hg⟩ : ∃ g, g = w.heap.size := ⟨_, rfl⟩
  have HB := hid (show Below w.heap.size w W from by rw [hW]; exact (Below.refl _ _).alloc (Nat.le_refl _) _)
  have HG := hid (show Blk W g (List.replicate n 0) from by rw [hW, hg]; exact heap_alloc_last _ _)
  rw [← hW, ← hg] at M1
  have HGE := hid hg
  have HXW := hid (h.below HB.out)
  have HAP : Hid (Apart p xs g) := h.apart (by rw [hg]; exact Nat.le_refl _)
  clear h hW hg
  go_enter Tryd.func51, Tryd.ntmps51
  go_wp2_with fail
  go_loopw [7, 8] (fun v i wr => ∃ k r : Nat, k ≤ n ∧ i = .int .i64 ((k : Int) - 1) ∧ r < d ∧ v = .int .u64 r ∧ ∃ D : List Nat, Hid (D.length = n - k ∧ Ok D ∧ val (xs.drop k) = d * val D + r ∧ Wr W g (List.replicate k 0 ++ D) wr)) (fun _ i _ => (intOf i + 1).toNat)
  case atStart =>
    refine ⟨n, 0, Nat.le_refl _, rfl, hd0, rfl, [], by simp, Ok.nil, ?_, ?_⟩
    · rw [List.drop_of_length_le (by rw [HX.out.len]; exact Nat.le_refl _)]; simp [val]
    · rw [List.append_nil]; exact Wr.refl HG.out
  case round =>
    obtain ⟨k, r, hk, rfl, hr, rfl, D, HD⟩ := hrel
    by_cases hlt : 0 < k
    · obtain ⟨b, o, rfl, hcell⟩ := HD.out.2.2.2.limbs HXW.out.lie HAP.out (k - 1) (by rw [HX.out.len]; omega)
      obtain ⟨x, hx⟩ : ∃ x, xs.getD (k - 1) 0 = x := ⟨_, rfl⟩
      rw [hx] at hcell
      have hxb : x < 4294967296 := by rw [← hx]; exact HX.out.ok.getD _
      have hrb : r < 4294967296 := by omega
      have hblk := Wr.blk HG.out HD.out.2.2.2
      have hc1 := hblk.cell (k - 1) (by simp; omega)
      have hf1 := hblk.frozen (k - 1)
      obtain ⟨v0, hv0⟩ : ∃ v0, (List.replicate k 0 ++ D).getD (k - 1) 0 = v0 := ⟨_, rfl⟩
      rw [hv0] at hc1
      obtain ⟨B, hB⟩ : ∃ B, x + 4294967296 * r = B := ⟨_, rfl⟩
      have hBi : (r : Int) * 4294967296 + (x : Int) = (B : Int) := by omega
      have hBb : B < 18446744073709551616 := by omega
      obtain ⟨q, hq⟩ : ∃ q, B / d = q := ⟨_, rfl⟩
      obtain ⟨r', hr'⟩ : ∃ r', B % d = r' := ⟨_, rfl⟩
      have hqi : (B : Int) / (d : Int) = (q : Int) := by rw [← hq]; simp
      have hri : (B : Int).tmod (d : Int) = (r' : Int) := by rw [← hr']; exact (Int.ofNat_tmod B d).symm
      have hri2 : (B : Int) % (d : Int) = (r' : Int) := by rw [← hr']; simp
      have hqb : q < 4294967296 := by
        rw [← hq]
        apply Nat.div_lt_of_lt_mul
        rw [← hB]
        have : 4294967296 * (r + 1) ≤ 4294967296 * d := Nat.mul_le_mul_left _ hr
        rw [Nat.mul_comm d]
        omega
      have hrd : r' < d := by rw [← hr']; exact Nat.mod_lt _ hd0
      have HXK := hid hx
      have HBE := hid (show x + 4294967296 * r = d * q + r' from by rw [hB, ← hq, ← hr']; exact (Nat.div_add_mod B d).symm)
      clear hx hB hq hr' hblk hv0
      go_wp2
      go_roundw
      case rel =>
        obtain ⟨d1, d2, d3, d4⟩ := HD.out
        have hdr : xs.drop (k - 1) = x :: xs.drop k := by
          rw [drop_cons xs (k - 1) (by rw [HX.out.len]; omega), HXK.out]; congr 2; omega
        refine ⟨k - 1, r', by omega, by go_num, hrd, by first | rfl | go_num, q :: D, by simp [d1]; omega, Ok.cons hqb d2, ?_, ?_⟩
        · rw [hdr]
          simp only [val]
          exact divs_step d3 HBE.out
        · have w1 := Wr.set HG.out d4 (k - 1) q
          have s1 := set_mid (List.replicate (k - 1) 0) [] D [] 0 0 q rfl
          simp only [List.length_replicate, List.nil_append, Nat.add_zero, List.append_nil, List.singleton_append] at s1
          have er : List.replicate k 0 = List.replicate (k - 1) 0 ++ [0] := by
            rw [← List.replicate_succ', show k - 1 + 1 = k from by omega]
          rw [er, List.append_assoc, List.singleton_append, s1] at w1
          exact w1
      case measure => simp [intOf]; omega
    · have hk0 : k = 0 := by omega
      subst hk0
      obtain ⟨d1, d2, d3, d4⟩ := HD.out
      rw [List.drop_zero] at d3
      rw [List.replicate_zero, List.nil_append] at d4
      rw [Nat.sub_zero] at d1
      have hq : val D = val xs / d := by rw [d3, Nat.mul_add_div hd0, Nat.div_eq_of_lt hr, Nat.add_zero]
      have hmd : val xs % d = r := by rw [d3, Nat.mul_add_mod, Nat.mod_eq_of_lt hr]
      have N1 := rnorm_c wr (some ⟨g, 0, none⟩) n n D ⟨d1, Nat.le_refl _, by unfold maxLen; omega, (fun e => by cases e), d2, (Wr.blk HG.out d4).limbs⟩ hs
      rw [hq] at N1
      have HN1 := hid N1
      have HBE := hid (d4.below HB.out (by rw [HGE.out]; exact Nat.le_refl _))
      have HMD := hid hmd
      clear d1 d2 d3 d4 hq hmd N1
      go_wp2_with fail
      refine HN1.out.mono ?_
      rintro e w3 ⟨r3, c3, rfl, A3⟩
      have HA := hid (A3.since HBE.out)
      clear A3
      go_wp2
      go_ret2
      exact ⟨r3, c3, by rw [HMD.out]; rfl, HA.out⟩
end Go.Proofs.YtoplejeljmpcpaaDoor

/-
  The numbers behind the document's Div.
-/
namespace Go.Proofs.YtoplejeljmpcpaaDoor
open Go.RowKit Nt
set_option linter.unusedSimpArgs false
set_option linter.unusedVariables false
set_option maxRecDepth 20000

theorem limb_at {xs : List Nat} (ho : Ok xs) (k : Nat) : xs.getD k 0 = val xs / 4294967296 ^ k % 4294967296 := by
  rw [← val_drop_div ho]
  by_cases h : k < xs.length
  · rw [drop_cons xs k h]
    have := ho.getD k
    simp only [val]
    omega
  · rw [List.drop_of_length_le (by omega), List.getD_eq_getElem?_getD, List.getElem?_eq_none (by omega)]
    rfl

theorem top_pair {X L : Nat} (hL : 1 ≤ L) (hX : X < 4294967296 ^ (L + 1)) : (digs X).getD L 0 * 4294967296 + (digs X).getD (L - 1) 0 = X / 4294967296 ^ (L - 1) := by
  rw [limb_at (ok_digs X), limb_at (ok_digs X), val_digs]
  obtain ⟨l, rfl⟩ : ∃ l, L = l + 1 := ⟨L - 1, by omega⟩
  have e1 : X / 4294967296 ^ (l + 1) = X / 4294967296 ^ l / 4294967296 := by rw [Nat.pow_succ, Nat.div_div_eq_div_mul]
  have e2 : X / 4294967296 ^ (l + 1) < 4294967296 := by
    apply Nat.div_lt_of_lt_mul
    rw [← Nat.pow_succ]
    exact hX
  rw [Nat.mod_eq_of_lt e2, e1, Nat.add_sub_cancel]
  generalize X / 4294967296 ^ l = Y
  omega

theorem rguess {X V L : Nat} (hV : 0 < V / 4294967296 ^ (L - 1)) : X / V ≤ X / 4294967296 ^ (L - 1) / (V / 4294967296 ^ (L - 1)) := by
  have hK : 0 < 4294967296 ^ (L - 1) := Nat.pow_pos (by omega)
  refine guess_first (U := X) (V := V) (K := 4294967296 ^ (L - 1)) ?_ ?_ hK (Nat.div_mul_le_self X V) hV
  · have := Nat.div_add_mod X (4294967296 ^ (L - 1))
    have h2 := Nat.mod_lt X hK
    rw [Nat.add_mul, Nat.one_mul, Nat.mul_comm (X / 4294967296 ^ (L - 1))]
    omega
  · exact Nat.div_mul_le_self V _

theorem rdiv_less {X V u R : Nat} (hu : u < 4294967296) (hR : R < V) (hX : X = u + 4294967296 * R) : X < V * 4294967296 := by
  have : 4294967296 * (R + 1) ≤ 4294967296 * V := Nat.mul_le_mul_left _ hR
  rw [Nat.mul_add] at this
  rw [Nat.mul_comm V]
  omega

theorem rdiv_end {g X V : Nat} (hV : 0 < V) (h1 : X / V ≤ g) (h2 : V * g ≤ X) : g = X / V := by
  have : g ≤ X / V := by rw [Nat.le_div_iff_mul_le hV, Nat.mul_comm]; exact h2
  omega

theorem rdiv_down {g X V : Nat} (hV : 0 < V) (h2 : X < V * g) : X / V < g := Nat.div_lt_of_lt_mul h2

theorem rdiv_same {U V k u R X : Nat} {Q : List Nat} (hk : 0 < k) (hs : U / 4294967296 ^ k = val Q * V + R) (hu : u = U / 4294967296 ^ (k - 1) % 4294967296) (hX : X = u + 4294967296 * R) :
    U / 4294967296 ^ (k - 1) = val ((X / V) :: Q) * V + X % V := by
  obtain ⟨l, rfl⟩ : ∃ l, k = l + 1 := ⟨k - 1, by omega⟩
  rw [Nat.add_sub_cancel] at *
  rw [Nat.pow_succ, ← Nat.div_div_eq_div_mul] at hs
  generalize U / 4294967296 ^ l = Y at *
  have e1 : Y = X + 4294967296 * (val Q * V) := by omega
  have e2 := Nat.div_add_mod X V
  simp only [val]
  rw [Nat.add_mul, e1, Nat.mul_assoc]
  rw [Nat.mul_comm V] at e2
  omega

theorem rdiv_last {A D P V U Q R : Nat} (hU : U = A * P) (hV : V = D * P) (hP : 0 < P) (hs : U = Q * V + R) (hl : R < V) : Q = A / D ∧ R / P = A % D := by
  obtain ⟨q1, q2⟩ := long_end (X := R) (V := V) (Q := Q) (a := A) (b := D) (S := P) (by rw [← hU, hs, Nat.mul_comm V]; omega) hl hV hP
  exact ⟨q1, by rw [q2, Nat.mul_div_cancel _ hP]⟩

/-- A row that was grown by append out of a literal of one limb. -/
theorem own_lit (w : World) (x : Nat) {z : Int} (hz : z = x) : Own (w.alloc (.cells #[.int .u32 z] 46)) w.heap.size (.slice (some ⟨w.heap.size, 0, none⟩) 1 1) [x] := by
  subst hz
  refine ⟨rfl, Or.inr ⟨w.heap.size, 1, #[.int .u32 x], rfl, Nat.le_refl _, heap_alloc_last _ _, Nat.le_refl _, by decide, rfl, rfl⟩⟩

theorem sl_lit (w : World) (x : Nat) (hx : x < 4294967296) {z : Int} (hz : z = x) : Sl (w.alloc (.cells #[.int .u32 z] 46)) (some ⟨w.heap.size, 0, none⟩) 1 1 [x] :=
  ⟨rfl, Nat.le_refl _, by decide, (fun e => by cases e), Ok.cons hx Ok.nil, limbs_lit w x hz⟩

/-- append of a slice that may be nil. -/
theorem append_sl {ops : Array Oper} {rest : List Oper} {o : Oper} {a : Act} {Q : Exit → Act → World → Prop} (w : World) (hgd : o.guard = none) (s x : Operand)
    (ho : o.op = .call { callee := .builtin .append, args := #[s, x], argTypes := #[22, 22] })
    (base : Nat) (v : Value) (xs : List Nat) (hs : a.eval s = v) (hown : Own w base v xs)
    (p : Option Addr) (m c : Nat) (news : List Nat) (hx : a.eval x = .slice p m c) (hnews : Sl w p m c news)
    (hb : xs.length + m ≤ 35184372088832) (hbase : base ≤ w.heap.size)
    (h : ∀ v' w', Own w' base v' (xs ++ news) → Below base w w' → wpList Tryd.prog ops Q rest (a.put o.dst v') w') : wpList Tryd.prog ops Q (o :: rest) a w := by
  cases p with
  | some ad => exact append_u32 w hgd s x ho base v xs hs hown ad m c news hx hnews.len hnews.lie hb hbase h
  | none =>
    have hc0 := hnews.nil rfl
    have hcap := hnews.cap
    subst hc0
    have hm0 : m = 0 := by omega
    subst hm0
    have hn0 : news = [] := List.length_eq_zero_iff.1 hnews.len
    subst hn0
    obtain ⟨i0, hi, hz0, hz1, hz2⟩ := info_parts infoU32
    refine wpList_append_own_none hgd s x 22 ho base 46 i0 1 Tryd.underlying22 hi v xs.length (U xs) hs hown hx ?_
    refine h v w ?_ (Below.refl _ _)
    rw [List.append_nil]
    exact hown
end Go.Proofs.YtoplejeljmpcpaaDoor

/-
  The document's own answer: Div, limb by limb from the top, each limb guessed and corrected downward.
-/
namespace Go.Proofs.YtoplejeljmpcpaaDoor
open Go.RowKit Nt
set_option linter.unusedSimpArgs false
set_option linter.unusedVariables false
set_option maxRecDepth 20000

end Go.Proofs.YtoplejeljmpcpaaDoor

/-
  The document's Div by two limbs and more.
-/
namespace Go.Proofs.YtoplejeljmpcpaaDoor
open Go.RowKit Nt
set_option linter.unusedSimpArgs false
set_option linter.unusedVariables false
set_option maxRecDepth 20000

/-- What holds ahead of each limb of the quotient: k limbs are left. -/
structure Rd (w wr : World) (g : Nat) (pu pv pr pd : Option Addr) (cu cv cr cd lu L U V D k R : Nat) (Q : List Nat) : Prop where
  bel : Below w.heap.size w wr
  bq : Blk wr g (List.replicate k 0 ++ Q)
  su : Sl wr pu lu cu (digs U)
  sv : Sl wr pv L cv (digs V)
  sd : Sl wr pd L cd (digs D)
  sr : Sl wr pr (digs R).length cr (digs R)
  oq : Ok Q
  lq : k + Q.length = lu
  less : R < V
  same : U / 4294967296 ^ k = val Q * V + R

/-- What holds while a guess is corrected. -/
structure Rg (w wr : World) (g : Nat) (pu pv px pp pd : Option Addr) (cu cv cx cp cd lu L U V D k X gs : Nat) (Q : List Nat) : Prop where
  bel : Below w.heap.size w wr
  bq : Blk wr g (List.replicate k 0 ++ Q)
  su : Sl wr pu lu cu (digs U)
  sv : Sl wr pv L cv (digs V)
  sd : Sl wr pd L cd (digs D)
  sx : Sl wr px (digs X).length cx (digs X)
  sp : Sl wr pp (digs (V * gs)).length cp (digs (V * gs))
  fx : ∀ b o, px = some ⟨b, o, none⟩ → g < b
  fp : ∀ b o, pp = some ⟨b, o, none⟩ → g < b
  ge : X / V ≤ gs

theorem rd_shift {D L bl s : Nat} (hL : (digs D).length = L) (hL0 : 0 < L) (hbl : Go.bitLen D = bl) (hs : 32 * L = s + bl) : s < 32 ∧ (digs (D * 2 ^ s)).length = L ∧ 2147483648 ≤ (digs (D * 2 ^ s)).getD (L - 1) 0 ∧ D * 2 ^ s < 4294967296 ^ L := by
  have htop : (digs D).getD (L - 1) 0 ≠ 0 := by
    rcases top_digs D with h0 | h0
    · rw [h0] at hL
      simp at hL
      omega
    · rw [hL] at h0
      exact h0
  obtain ⟨t, ht⟩ : ∃ t, (digs D).getD (L - 1) 0 = t := ⟨_, rfl⟩
  rw [ht] at htop
  have htb : t < 4294967296 := by rw [← ht]; exact (ok_digs D).getD _
  have e := bl_top (ok_digs D) (k := L - 1) (by rw [hL]; omega) (fun j h1 h2 => by rw [hL] at h2; omega) ht htop
  rw [val_digs, hbl] at e
  have h32 := bl_le32 htb
  have h1 : Go.bitLen t ≠ 0 := by
    intro e0
    have := (bitLen_spec t).1
    rw [e0] at this
    simp at this
    exact htop this
  have hst : s + Go.bitLen t = 32 := by omega
  have NT := norm_top (ok_digs D) hL hL0 ht htop hst
  rw [val_digs] at NT
  have TH := top_half hL0 NT.1 NT.2
  exact ⟨by omega, TH.1, TH.2, NT.2⟩

end Go.Proofs.YtoplejeljmpcpaaDoor
