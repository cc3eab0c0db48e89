/-
  nat.divLong: the long division.
-/
import Derived.Test.YtejhbjcgacblfaaLongMath
import Derived.Test.YtejhbjcgacblfaaDigit
import Derived.Test.YtejhbjcgacblfaaShift
import Derived.Test.YtejhbjcgacblfaaDown
namespace Go.Proofs.Ytejhbjcgacblfaa
open Go.RowKit Nt
set_option linter.unusedSimpArgs false
set_option linter.unusedVariables false

theorem lz_c (w : World) (x s : Nat) (hx : x < 4294967296) (hs : s + Go.bitLen x = 32) :
    Calls Try.prog 68 #[.int .u32 x] w fun e w' => e = .returned (.int .i64 s) ∧ w' = w := by
  have := Try.bits_LeadingZeros32 (x : Int) w (by omega) (by omega)
  rw [Int.toNat_natCast, lib_bitLen (by omega), show (32 : Int) - (Go.bitLen x : Int) = (s : Int) from by omega] at this
  exact this
theorem up0_c (w : World) (p : Option Addr) (n c : Nat) (xs : List Nat) (s : Nat) (h : Sl w p n c xs) (hs : s < 32) (hsz : n + 1 ≤ 70368744177664) :
    Calls Try.prog 69 #[.slice p n c, .int .i64 s] w fun e w' => ∃ r cr, e = .returned (.slice r (digs (val xs * 2 ^ s)).length cr) ∧ Res w w' r cr (val xs * 2 ^ s) := by
  have := up_c w p n c xs (s : Int) 0 s h (by omega) hs (by omega)
  rw [Nat.mul_zero, Nat.zero_add] at this
  exact this
theorem down0_c (w : World) (p : Option Addr) (n c : Nat) (xs : List Nat) (s : Nat) (h : Sl w p n c xs) (hs : s < 32) (hsz : n ≤ 70368744177664) :
    Calls Try.prog 47 #[.slice p n c, .int .i64 s] w fun e w' => ∃ r cr, e = .returned (.slice r (digs (val xs / 2 ^ s)).length cr) ∧ Res w w' r cr (val xs / 2 ^ s) := by
  have := down_c w p n c xs (s : Int) 0 s h (by omega) hs (by omega) hsz
  rw [Nat.mul_zero, Nat.zero_add] at this
  exact this

theorem mul_lt_pow {a K s : Nat} (h : a < K) (hs : s < 32) : a * 2 ^ s < K * 4294967296 := by
  have h1 : 2 ^ s ≤ 4294967296 := Nat.le_trans (Nat.pow_le_pow_right (n := 2) (by omega) (show s ≤ 32 by omega)) (by omega)
  have h2 : 0 < 2 ^ s := Nat.two_pow_pos s
  generalize 2 ^ s = P at *
  have h3 : (a + 1) * P ≤ K * P := Nat.mul_le_mul_right _ h
  have h4 : K * P ≤ K * 4294967296 := Nat.mul_le_mul_left _ h1
  rw [Nat.add_mul, Nat.one_mul] at h3
  omega

/-- Two rows of their own. -/
def Two (r s : Option Addr) : Prop := ∀ b o b' o', r = some ⟨b, o, none⟩ → s = some ⟨b', o', none⟩ → b ≠ b'
theorem Two.void (s : Option Addr) : Two none s := fun _ _ _ _ e => by cases e
/-- A row that lay there, and one that was made later. -/
theorem Two.later {w w' W : World} {r s : Option Addr} {cs n : Nat} (h : ∀ b o, r = some ⟨b, o, none⟩ → b < W.heap.size) (k : Res W w' s cs n) : Two r s := fun b o b' o' e e' => by
  have h1 := h b o e
  obtain ⟨_, h2, _⟩ := k.own b' o' e'
  omega
theorem Two.sooner {w w' W : World} {r s : Option Addr} {cr n : Nat} (h : ∀ b o, s = some ⟨b, o, none⟩ → b < W.heap.size) (k : Res W w' r cr n) : Two r s := fun b o b' o' e e' => by
  have h1 := h b' o' e'
  obtain ⟨_, h2, _⟩ := k.own b o e
  omega
theorem Res.in {w w' : World} {r : Option Addr} {c n : Nat} (k : Res w w' r c n) : ∀ b o, r = some ⟨b, o, none⟩ → b < w'.heap.size := fun b o e => by
  obtain ⟨_, _, rest, h, _⟩ := k.own b o e
  exact h.size

/-- Where the loop stands: k digits are found. -/
structure Lg (w wr : World) (gu gq : Nat) (pv : Option Addr) (cv n e V U k : Nat) (X Q : List Nat) : Prop where
  bel : Below w.heap.size w wr
  bu : Blk wr gu X
  bq : Blk wr gq (List.replicate (e + 1 - k) 0 ++ Q)
  sv : Sl wr pv n cv (digs V)
  ox : Ok X
  oq : Ok Q
  lx : X.length = n + e + 1
  lq : Q.length = k
  less : val X < V * 4294967296 ^ (e + 1 - k)
  same : val X + V * 4294967296 ^ (e + 1 - k) * val Q = U

set_option maxHeartbeats 4000000 in
theorem divLong_c (w : World) (p q : Option Addr) (la c n d e : Nat) (A B : List Nat) (hle : la = n + e) (h : Sl w p la c A) (h' : Sl w q n d B) (hn2 : 2 ≤ n) (ht : B.getD (n - 1) 0 ≠ 0) (hsz : la + 1 ≤ 70368744177664) :
    Calls Try.prog 52 #[.slice p la c, .slice q n d] w fun en w' => ∃ r cr s cs, en = .returned (.tuple #[.slice r (digs (val A / val B)).length cr, .slice s (digs (val A % val B)).length cs]) ∧ Res w w' r cr (val A / val B) ∧ Res w w' s cs (val A % val B) ∧ Two r s := by
  obtain ⟨t, htt⟩ : ∃ t, B.getD (n - 1) 0 = t := ⟨_, rfl⟩
  have htb : t < 4294967296 := by rw [← htt]; exact h'.ok.getD _
  rw [htt] at ht
  obtain ⟨s, hs⟩ : ∃ s, s + Go.bitLen t = 32 := ⟨32 - Go.bitLen t, by have := bl_le32 htb; omega⟩
  have hs32 : s < 32 := by
    have h0 : Go.bitLen t ≠ 0 := by
      intro e0
      have := (bitLen_spec t).1
      rw [e0] at this
      simp at this
      exact ht this
    omega
  have NT := norm_top h'.ok h'.len (by omega) htt ht hs
  have TH := hid (top_half (by omega) NT.1 NT.2)
  have HVB := hid NT.2
  have hB0 : 4294967296 ^ (n - 1) ≤ val B := by
    have e1 := val_split B (n - 1) (by rw [h'.len]; omega)
    have e2 := drop_cons B (n - 1) (by rw [h'.len]; omega)
    rw [htt] at e2
    rw [e2] at e1
    simp only [val] at e1
    have : 4294967296 ^ (n - 1) * 1 ≤ 4294967296 ^ (n - 1) * (t + 4294967296 * val (B.drop (n - 1 + 1))) := Nat.mul_le_mul_left _ (by omega)
    omega
  have LS := hid (long_start (s := s) h.ok h.len (show 0 < n by omega) (by omega) hB0)
  obtain ⟨b0, o0, rfl, hcell⟩ := h'.lie (n - 1) (by rw [h'.len]; omega)
  rw [htt] at hcell
  have hm := h.max
  have hc := h.cap
  have hm' := h'.max
  have hc' := h'.cap
  unfold maxLen at hm hm'
  have U1 := hid (up0_c w (some ⟨b0, o0, none⟩) n d B s h' hs32 (by omega))
  have LZ := hid (lz_c w t s htb hs)
  have HX := hid h
  have HVL : Hid (val B * 2 ^ s = val B * 2 ^ s ∧ 0 < val B) := ⟨rfl, Nat.lt_of_lt_of_le (Nat.pow_pos (by omega)) hB0⟩
  have M1 : ∀ W : World, (Instr.makeSlice 22 (.int .i64 ((la : Int) + 1)) (.int .i64 ((la : Int) + 1))).run Try.prog W = .ok (.slice (some ⟨W.heap.size, 0, none⟩) (la + 1) (la + 1)) (W.alloc (.cells (U (List.replicate (la + 1) 0)).toArray 44)) := by
    have := make_u32 (la + 1) (by omega)
    simpa using this
  have M2 : ∀ W : World, (Instr.makeSlice 22 (.int .i64 ((la : Int) - (n : Int) + 1)) (.int .i64 ((la : Int) - (n : Int) + 1))).run Try.prog W = .ok (.slice (some ⟨W.heap.size, 0, none⟩) (e + 1) (e + 1)) (W.alloc (.cells (U (List.replicate (e + 1) 0)).toArray 44)) := by
    have := make_u32 (e + 1) (by omega)
    rw [show ((la : Int) - (n : Int) + 1) = ((e + 1 : Nat) : Int) from by omega]
    exact this
  have hle1 : la ≤ n + e := by omega
  have hle2 : n + e ≤ la := by omega
  obtain ⟨V, hV⟩ : ∃ V, val B * 2 ^ s = V := ⟨_, rfl⟩
  obtain ⟨UU, hU⟩ : ∃ UU, val A * 2 ^ s = UU := ⟨_, rfl⟩
  rw [hV] at TH HVB LS U1
  rw [hU] at LS
  have hA1 := val_lt h.ok
  rw [h.len] at hA1
  have hLU : (digs UU).length ≤ la + 1 := by
    apply digs_length_le
    rw [← hU, Nat.pow_succ]
    exact mul_lt_pow hA1 hs32
  obtain ⟨L, hL⟩ : ∃ L, (digs UU).length = L := ⟨_, rfl⟩
  rw [hL] at hLU
  have HL := hid hL
  have HV := hid hV
  have HU := hid hU
  have HV0 : Hid (0 < V) := by rw [← hV]; exact Nat.mul_pos HVL.out.2 (Nat.two_pow_pos s)
  clear h h' NT htt ht hB0 hle hV hU hA1 hL
  go_enter Try.func52, Try.ntmps52
  go_wp2_with fail
  refine LZ.out.mono ?_
  rintro en w' ⟨rfl, rfl⟩
  go_wp2_with fail
  refine U1.out.mono ?_
  rintro en W1 ⟨pv, cv, rfl, R1⟩
  rw [TH.out.1]
  have HSV := hid R1.sl
  rw [TH.out.1] at HSV
  have HR1 := hid R1.below
  clear R1 U1 LZ hcell
  obtain ⟨W2, hW2⟩ : ∃ W2, W2 = W1.alloc (.cells (U (List.replicate (la + 1) 0)).toArray 44) := ⟨_, rfl⟩
  obtain ⟨gu, hgu⟩ : ∃ gu, gu = W1.heap.size := ⟨_, rfl⟩
  have HB2 := hid (show Below W1.heap.size W1 W2 from by rw [hW2]; exact (Below.refl _ _).alloc (Nat.le_refl _) _)
  have HG2 := hid (show Blk W2 gu (List.replicate (la + 1) 0) from by rw [hW2, hgu]; exact heap_alloc_last _ _)
  have M1' := M1 W1
  rw [← hW2, ← hgu] at M1'
  have U2 := up0_c W2 p la c A s ((HX.out.below HR1.out).below HB2.out) hs32 (by omega)
  rw [HU.out, HL.out] at U2
  have HU2 := hid U2
  have HGU := hid hgu
  clear M1 hW2 hgu U2
  go_wp2_with fail
  refine HU2.out.mono ?_
  rintro en W3 ⟨pa, ca, rfl, R2⟩
  have HSV3 := hid ((HSV.out.below HB2.out).below R2.below)
  have HG3 := hid (HG2.out.below R2.below)
  have hcp := fun ty => copy_u32 W3 ty gu L (la + 1) ca pa (digs UU) (List.replicate (la + 1) 0) HL.out (by simp) hLU R2.sl.lie HG3.out R2.sl.nil
  obtain ⟨X0, hX0⟩ : ∃ X0, digs UU ++ (List.replicate (la + 1) 0).drop L = X0 := ⟨_, rfl⟩
  rw [hX0] at hcp
  obtain ⟨W4, hW4⟩ : ∃ W4, W4 = W3.setRow gu (U X0).toArray := ⟨_, rfl⟩
  rw [← hW4] at hcp
  have HWR : Hid (Wr W3 gu X0 W4) := ⟨0, hW4⟩
  have HX0 : Hid (X0.length = la + 1 ∧ Ok X0 ∧ val X0 = UU) := by
    rw [← hX0]
    refine ⟨?_, ?_, ?_⟩
    · have := HL.out
      simp
      omega
    · exact (ok_digs _).append ((Ok.replicate _).drop _)
    · rw [List.drop_replicate, val_append, val_replicate, Nat.mul_zero, Nat.add_zero, val_digs]
  have HR2 := hid R2.below
  clear hW4 hX0 R2 HU2
  obtain ⟨W5, hW5⟩ : ∃ W5, W5 = W4.alloc (.cells (U (List.replicate (e + 1) 0)).toArray 44) := ⟨_, rfl⟩
  obtain ⟨gq, hgq⟩ : ∃ gq, gq = W4.heap.size := ⟨_, rfl⟩
  have HB5 := hid (show Below W4.heap.size W4 W5 from by rw [hW5]; exact (Below.refl _ _).alloc (Nat.le_refl _) _)
  have HG5 := hid (show Blk W5 gq (List.replicate (e + 1) 0) from by rw [hW5, hgq]; exact heap_alloc_last _ _)
  have M2' := M2 W4
  rw [← hW5, ← hgq] at M2'
  have HGQ := hid hgq
  clear M2 hW5 hgq
  have HS4 : Hid (Sl W4 pv n cv (digs V)) := ⟨HSV3.out.len, HSV3.out.cap, HSV3.out.max, HSV3.out.nil, HSV3.out.ok, HWR.out.limbs HSV3.out.lie (HSV.out.apart (by rw [HGU.out]; exact Nat.le_refl _))⟩
  have HAU : Hid (Apart pv (digs V) gu) := HSV.out.apart (by rw [HGU.out]; exact Nat.le_refl _)
  have HAQ : Hid (Apart pv (digs V) gq) := HS4.out.apart (by rw [HGQ.out]; exact Nat.le_refl _)
  have HG4 : Hid (Blk W4 gu X0) := Wr.blk HG3.out HWR.out
  have HNE : Hid (gu ≠ gq) := by
    have := HG4.out.size
    have := HGQ.out
    show gu ≠ gq
    omega
  have HWU : Hid (w'.heap.size ≤ gu) := by rw [HGU.out]; exact HR1.out.size
  have hb4 : Below w'.heap.size w' W4 := HWR.out.below (HR1.out.trans ((HB2.out.mono HR1.out.size).trans (HR2.out.mono (Nat.le_trans HR1.out.size HB2.out.size)))) HWU.out
  have HWQ : Hid (w'.heap.size ≤ gq) := by rw [HGQ.out]; exact hb4.size
  have HST : Hid (Lg w' W5 gu gq pv cv n e V UU 0 X0 []) := by
    refine ⟨hb4.trans (HB5.out.mono hb4.size), HG4.out.below HB5.out, by simpa using HG5.out, HS4.out.below HB5.out, HX0.out.2.1, Ok.nil, by rw [HX0.out.1]; omega, rfl, ?_, by rw [HX0.out.2.2, show val ([] : List Nat) = 0 from rfl, Nat.mul_zero, Nat.add_zero]⟩
    rw [HX0.out.2.2]
    have := LS.out
    rw [show la - n + 1 = e + 1 - 0 from by omega] at this
    exact this
  clear hb4 HG4 HS4 HG5 HB5 HWR HR2 HG3 HSV3 HG2 HB2 HR1 HSV LS HX0
  go_wp2_with fail
  go_loopw [41] (fun i wr => ∃ k : Nat, k ≤ e + 1 ∧ i = .int .i64 k ∧ ∃ X Q : List Nat, Hid (Lg w' wr gu gq pv cv n e V UU k X Q)) (fun i _ => e + 1 - (intOf i).toNat)
  case atStart => exact ⟨0, Nat.zero_le _, rfl, X0, [], HST.out⟩
  case round =>
    obtain ⟨k, hk, rfl, X, Q, HI⟩ := hrel
    by_cases hlt : k < e + 1
    · clear HST
      have hjl : (X.take (e - k)).length = e - k := by have := HI.out.lx; simp; omega
      obtain ⟨c1, c2, c3, c4⟩ := long_cut (j := e - k) (n := n) (i := k) HI.out.ox (by have := HI.out.lx; omega) HVB.out (by have := HI.out.less; rw [show e + 1 - k = e - k + 1 from by omega] at this; exact this)
      have HC := hid (And.intro c1 (And.intro c2 (And.intro c3 c4)))
      have e0 : X.take (e - k) ++ (X.drop (e - k)).take (n + 1) ++ (X.drop (e - k)).drop (n + 1) = X := by rw [List.append_assoc, List.take_append_drop, List.take_append_drop]
      have D1 := digit_c wr gu (X.take (e - k)) ((X.drop (e - k)).take (n + 1)) ((X.drop (e - k)).drop (n + 1)) n (n + 1) (la + 1 - (e - k)) pv cv (digs V) (by have := HI.out.lx; simp; omega) rfl (by omega) (by unfold maxLen; omega)
        (by rw [e0]; exact HI.out.bu) ((HI.out.ox.drop _).take _) HI.out.sv HAU.out hn2 TH.out.2 (by rw [val_digs]; exact c4)
      rw [hjl, val_digs] at D1
      obtain ⟨M, hM⟩ : ∃ M, (X.drop (e - k)).take (n + 1) = M := ⟨_, rfl⟩
      obtain ⟨T, hT⟩ : ∃ T, (X.drop (e - k)).drop (n + 1) = T := ⟨_, rfl⟩
      obtain ⟨O, hO⟩ : ∃ O, X.take (e - k) = O := ⟨_, rfl⟩
      rw [hM, hT, hO] at D1 e0
      rw [hM, hT, hO] at HC
      rw [hO] at hjl
      have HD1 := hid D1
      have HE0 := hid e0
      have HOL := hid hjl
      have HML : Hid (M.length = n + 1) := by rw [← hM]; have := HI.out.lx; show _ = _; simp; omega
      have HOT : Hid (Ok O ∧ Ok T) := by rw [← hO, ← hT]; exact ⟨HI.out.ox.take _, (HI.out.ox.drop _).drop _⟩
      have hln : e - k + n + 1 - (e - k) = n + 1 := by omega
      clear c1 c2 c3 c4 D1 e0 hjl hM hT hO
      go_wp2_with fail
      try rw [hln]
      refine HD1.out.mono ?_
      rintro en w2 ⟨Z, z1, z2, z3, rfl, z5⟩
      have hbq2 : Blk w2 gq (List.replicate (e + 1 - k) 0 ++ Q) := (z5.other (Ne.symm HNE.out)).trans HI.out.bq
      have hc2 := hbq2.cell (e - k) (by have := HI.out.lq; simp; omega)
      have hf2 := hbq2.frozen (e - k)
      obtain ⟨v0, hv0⟩ : ∃ v0, (List.replicate (e + 1 - k) 0 ++ Q).getD (e - k) 0 = v0 := ⟨_, rfl⟩
      rw [hv0] at hc2
      obtain ⟨qd, hqd⟩ : ∃ qd, val M / V = qd := ⟨_, rfl⟩
      have hqb : qd < 4294967296 := by
        rw [← hqd]
        exact Nat.div_lt_of_lt_mul HC.out.2.2.2
      rw [hqd]
      have HZ := hid (And.intro z1 (And.intro z2 (And.intro z3 z5)))
      have HQD := hid hqd
      have HBQ2 := hid hbq2
      clear z1 z2 z3 z5 hbq2 hv0 HD1 hqd hln
      go_wp2
      go_roundw
      case rel =>
        obtain ⟨z1, z2, z3, z5⟩ := HZ.out
        have w1 := Wr.set HBQ2.out (Wr.refl HBQ2.out) (e - k) qd
        have er : (List.replicate (e + 1 - k) 0 ++ Q).set (e - k) qd = List.replicate (e + 1 - (k + 1)) 0 ++ (qd :: Q) := by
          have s1 := set_mid (List.replicate (e - k) 0) [] Q [] 0 0 qd rfl
          simp only [List.length_replicate, List.nil_append, Nat.add_zero, List.append_nil, List.singleton_append] at s1
          rw [show e + 1 - k = (e - k) + 1 from by omega, List.replicate_succ', List.append_assoc, List.singleton_append, s1, show e + 1 - (k + 1) = e - k from by omega]
        rw [er] at w1
        have hK : 4294967296 ^ (e + 1 - k) = 4294967296 ^ (e - k) * 4294967296 := by rw [show e + 1 - k = (e - k) + 1 from by omega, Nat.pow_succ]
        have hx' : val (O ++ Z ++ T) = val O + 4294967296 ^ (e - k) * (val M % V) := by
          rw [List.append_assoc, val_append, val_append, HC.out.2.2.1, Nat.mul_zero, Nat.add_zero, HOL.out, z3]
        refine ⟨k + 1, by omega, by go_num, O ++ Z ++ T, qd :: Q, ?_⟩
        refine ⟨w1.below (z5.below HI.out.bel HWU.out) HWQ.out, ?_, Wr.blk HBQ2.out w1, ?_, (HOT.out.1.append z2).append HOT.out.2, Ok.cons hqb HI.out.oq, ?_, by simp [HI.out.lq], ?_, ?_⟩
        · show _ = _
          rw [w1.other HNE.out]
          exact Wr.blk HI.out.bu z5
        · exact ⟨HI.out.sv.len, HI.out.sv.cap, HI.out.sv.max, HI.out.sv.nil, HI.out.sv.ok, w1.limbs (z5.limbs HI.out.sv.lie HAU.out) HAQ.out⟩
        · have h1 := congrArg List.length HE0.out
          have h2 := HI.out.lx
          have h3 := HI.out.lx
          simp only [List.length_append] at h1 ⊢
          have h4 : M.length = n + 1 := HML.out
          omega
        · rw [hx', show e + 1 - (k + 1) = e - k from by omega]
          exact long_less HC.out.1 HV0.out
        · rw [hx', show e + 1 - (k + 1) = e - k from by omega]
          simp only [val]
          rw [← HQD.out]
          apply long_same
          have := HI.out.same
          rw [HC.out.2.1, hK] at this
          exact this
      case measure => simp [intOf]; omega
    · have hke : k = e + 1 := by omega
      subst hke
      have l1 := HI.out.less
      have l2 := HI.out.same
      rw [Nat.sub_self, Nat.pow_zero, Nat.mul_one] at l1 l2
      obtain ⟨q1, q2⟩ := long_end (a := val A) (b := val B) (S := 2 ^ s) (by rw [HU.out]; exact l2) l1 HV.out.symm (Nat.two_pow_pos s)
      have bq := HI.out.bq
      rw [Nat.sub_self, List.replicate_zero, List.nil_append] at bq
      have T1 := hid (trim_s wr (some ⟨gq, 0, none⟩) (e + 1) (e + 1) (digs (val A / val B)).length Q (by rw [q1]) ⟨HI.out.lq, Nat.le_refl _, by unfold maxLen; omega, (fun e => by cases e), HI.out.oq, bq.limbs⟩)
      have SU : Sl wr (some ⟨gu, 0, none⟩) (la + 1) (la + 1) X := ⟨by rw [HI.out.lx]; omega, Nat.le_refl _, by unfold maxLen; omega, (fun e => by cases e), HI.out.ox, HI.out.bu.limbs⟩
      obtain ⟨Lx, hLx⟩ : ∃ Lx, (digs (val X)).length = Lx := ⟨_, rfl⟩
      have hLx2 : Lx ≤ la + 1 := by rw [← hLx]; exact SU.dl
      have T2 := hid (trim_s wr (some ⟨gu, 0, none⟩) (la + 1) (la + 1) Lx X hLx SU)
      have SD := SU.digs
      rw [hLx] at SD
      have DN := down0_c wr (some ⟨gu, 0, none⟩) Lx (la + 1) (digs (val X)) s SD hs32 (by omega)
      rw [val_digs, q2, Nat.mul_div_cancel _ (Nat.two_pow_pos s)] at DN
      have HDN := hid DN
      have RQ := hid (Res.row (w := w') (w' := wr) HI.out.bel bq HI.out.oq q1 HWQ.out HI.out.lq (by unfold maxLen; omega))
      have HBE := hid HI.out.bel
      clear l1 l2 q1 q2 bq SU hLx SD DN HI HST HX hcp
      go_wp2_with fail
      refine T1.out.mono ?_
      rintro en w3 ⟨rfl, rfl⟩
      go_wp2_with fail
      refine T2.out.mono ?_
      rintro en w3 ⟨rfl, rfl⟩
      go_wp2_with fail
      refine HDN.out.mono ?_
      rintro en w4 ⟨r, cr, rfl, R⟩
      go_wp2
      go_ret2
      exact ⟨_, _, r, cr, rfl, RQ.out.later R.below, R.since HBE.out, Two.later (w := w') RQ.out.in R⟩
end Go.Proofs.Ytejhbjcgacblfaa
