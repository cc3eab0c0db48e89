/-
  nat.order, nat.Cmp.
-/
import Derived.Test.YtpbdmpimojebgaaDoorTrim
namespace Go.Proofs.YtpbdmpimojebgaaDoor
open Go.RowKit Nt
set_option linter.unusedSimpArgs false
set_option linter.unusedVariables false

/-- -1, 0, 1 -/
def cmpN (a b : Nat) : Int := if a < b then -1 else if a = b then 0 else 1

def ordB (b : Bool) : Int := if b then -1 else 1

theorem order_any (w : World) (b : Bool) : Calls Tryd.prog 23 #[.bool b] w fun e w' => e = .returned (.int .i64 (ordB b)) ∧ w' = w := by
  cases b
  all_goals
    go_enter Tryd.func23, Tryd.ntmps23
    go_wp2
    go_ret
    exact ⟨rfl, rfl⟩

/-- The first limb, from the top, in which they differ decides. -/
theorem cmp_at {xs ys : List Nat} (hl : xs.length = ys.length) (hx : Ok xs) {k : Nat} (hk : k < xs.length)
    (he : ∀ j, k < j → j < xs.length → xs.getD j 0 = ys.getD j 0) (hlt : xs.getD k 0 < ys.getD k 0) : val xs < val ys := by
  have e1 := val_split xs (k + 1) (by omega)
  have e2 := val_split ys (k + 1) (by omega)
  have hd : xs.drop (k + 1) = ys.drop (k + 1) := by
    apply List.ext_getElem (by simp [hl])
    intro i h1 h2
    have h3 : k + 1 + i < xs.length := by simp at h1; omega
    have h4 : k + 1 + i < ys.length := by omega
    have := he (k + 1 + i) (by omega) h3
    simpa [h3, h4] using this
  rw [hd] at e1
  rw [val_take_succ xs k hk] at e1
  rw [val_take_succ ys k (by omega)] at e2
  have b1 := val_lt (hx.take k)
  rw [List.length_take, Nat.min_eq_left (by omega)] at b1
  have b2 : 4294967296 ^ k * (xs.getD k 0 + 1) ≤ 4294967296 ^ k * ys.getD k 0 := Nat.mul_le_mul_left _ hlt
  rw [Nat.mul_add] at b2
  omega

theorem cmp_len {a b : Nat} (h : (digs a).length < (digs b).length) : a < b := by
  apply Classical.byContradiction
  intro hc
  have := digs_length_mono (Nat.le_of_not_lt hc)
  omega

set_option maxHeartbeats 1000000 in
theorem cmp_c (w : World) (p q : Option Addr) (n c m d : Nat) (xs ys : List Nat) (hn : xs.length = n) (hc : n ≤ c) (hm : c ≤ maxLen) (ho : Ok xs) (hx : Limbs w p xs)
    (hn' : ys.length = m) (hc' : m ≤ d) (hm' : d ≤ maxLen) (ho' : Ok ys) (hx' : Limbs w q ys) :
    Calls Tryd.prog 10 #[.slice p n c, .slice q m d] w fun e w' => e = .returned (.int .i64 (cmpN (val xs) (val ys))) ∧ ∃ nq, w' = w.drewN nq := by
  obtain ⟨la, hla⟩ : ∃ la, (digs (val xs)).length = la := ⟨_, rfl⟩
  obtain ⟨lb, hlb⟩ : ∃ lb, (digs (val ys)).length = lb := ⟨_, rfl⟩
  have hlan : la ≤ n := by rw [← hla, ← hn]; exact digs_le_length ho
  have hlbm : lb ≤ m := by rw [← hlb, ← hn']; exact digs_le_length ho'
  have t1 : ∀ w', Limbs w' p xs → Calls Tryd.prog 15 #[.slice p n c] w' fun e w'' => e = .returned (.slice p la c) ∧ w'' = w' := fun w' h => trim_k w' p n c la xs hla hn hc hm ho h
  have t2 : ∀ w', Limbs w' q ys → Calls Tryd.prog 15 #[.slice q m d] w' fun e w'' => e = .returned (.slice q lb d) ∧ w'' = w' := fun w' h => trim_k w' q m d lb ys hlb hn' hc' hm' ho' h
  have HX : Hid (Limbs w p (digs (val xs))) := hx.digs ho
  have HY : Hid (Limbs w q (digs (val ys))) := hx'.digs ho'
  have T1 := hid (t1 w hx)
  have T2 := hid (t2 w hx')
  have HA : Hid ((digs (val xs)).length = la) := hla
  have HB : Hid ((digs (val ys)).length = lb) := hlb
  unfold maxLen at hm hm'
  clear t1 t2 hla hlb hx hx' ho ho' hn hn'
  by_cases hl : la = lb
  · subst hl
    go_enter Tryd.func10, Tryd.ntmps10
    go_wp2_with fail
    refine T1.out.mono ?_
    rintro e w' ⟨rfl, rfl⟩
    go_wp2_with fail
    refine T2.out.mono ?_
    rintro e w' ⟨rfl, rfl⟩
    go_wp2_with fail
    go_loopw [24] (fun i wr => ∃ k : Nat, k ≤ la ∧ i = .int .i64 k ∧ (∃ nq, wr = w'.drewN nq) ∧ Hid (∀ j, la - k ≤ j → j < la → (digs (val xs)).getD j 0 = (digs (val ys)).getD j 0)) (fun i _ => la - (intOf i).toNat)
    case atStart => exact ⟨0, Nat.zero_le _, rfl, ⟨0, rfl⟩, fun j h1 h2 => by omega⟩
    case round =>
      obtain ⟨k, hk, rfl, ⟨nq, rfl⟩, HZ⟩ := hrel
      by_cases hlt : k < la
      · obtain ⟨b, o, rfl, hcell⟩ := HX.out (la - 1 - k) (by have := HA.out; omega)
        obtain ⟨b', o', rfl, hcell'⟩ := HY.out (la - 1 - k) (by have := HB.out; omega)
        obtain ⟨x, hx⟩ : ∃ x, (digs (val xs)).getD (la - 1 - k) 0 = x := ⟨_, rfl⟩
        obtain ⟨y, hy⟩ : ∃ y, (digs (val ys)).getD (la - 1 - k) 0 = y := ⟨_, rfl⟩
        rw [hx] at hcell
        rw [hy] at hcell'
        have HXK := hid hx
        have HYK := hid hy
        clear hx hy
        by_cases hxy : x = y
        · subst hxy
          go_wp2_with fail
          go_quiet (fail)
          go_wp2
          go_roundw
          case rel =>
            refine ⟨k + 1, by omega, by go_num, ⟨_, rfl⟩, ?_⟩
            intro j h1 h2
            by_cases e : j = la - 1 - k
            · rw [e, HXK.out, HYK.out]
            · exact HZ.out j (by omega) h2
          case measure => simp [intOf]; omega
        · have hne : ((x : Int) != (y : Int)) = true := by rw [bne_iff_ne]; omega
          go_wp2_with fail
          go_quiet (fail)
          go_wp2_with fail
          go_quiet ((go_at_call 23; exact qcall (order_any _ _)))
          go_wp2
          go_ret
          refine ⟨ret_int ?_, dr3 _ _ _ _⟩
          have he : ∀ j, la - 1 - k < j → j < la → (digs (val xs)).getD j 0 = (digs (val ys)).getD j 0 := fun j h1 h2 => HZ.out j (by omega) h2
          by_cases hxl : x < y
          · have := cmp_at (by rw [HA.out, HB.out]) (ok_digs (val xs)) (k := la - 1 - k) (by rw [HA.out]; omega) (fun j h1 h2 => he j h1 (by rw [← HA.out]; exact h2)) (by rw [HXK.out, HYK.out]; exact hxl)
            rw [val_digs, val_digs] at this
            simp [cmpN, ordB, hxl, this]
          · have := cmp_at (by rw [HA.out, HB.out]) (ok_digs (val ys)) (k := la - 1 - k) (by rw [HB.out]; omega) (fun j h1 h2 => (he j h1 (by rw [← HB.out]; exact h2)).symm) (by rw [HXK.out, HYK.out]; omega)
            rw [val_digs, val_digs] at this
            have h1 : ¬ val xs < val ys := by omega
            have h2 : ¬ val xs = val ys := by omega
            have h3 : ¬ (x : Int) < y := by omega
            simp [cmpN, ordB, h1, h2, hxl]
      · go_wp2
        go_ret
        refine ⟨ret_int ?_, nq, rfl⟩
        have : digs (val xs) = digs (val ys) := by
          apply List.ext_getElem (by rw [HA.out, HB.out])
          intro i h1 h2
          have := HZ.out i (by omega) (by rw [← HA.out]; exact h1)
          simpa [h1, h2] using this
        simp [cmpN, digs_inj this]
  · have hne : ((la : Int) != (lb : Int)) = true := by rw [bne_iff_ne]; omega
    by_cases hlt : la < lb
    · go_enter Tryd.func10, Tryd.ntmps10
      go_wp2_with fail
      refine T1.out.mono ?_
      rintro e w' ⟨rfl, rfl⟩
      go_wp2_with fail
      refine T2.out.mono ?_
      rintro e w' ⟨rfl, rfl⟩
      go_wp2_with (go_at_call 23; refine (order_any _ _).mono ?_; rintro e w' ⟨rfl, rfl⟩)
      go_ret
      refine ⟨ret_int ?_, 0, rfl⟩
      have := cmp_len (a := val xs) (b := val ys) (by rw [HA.out, HB.out]; exact hlt)
      simp [cmpN, ordB, this]
    · go_enter Tryd.func10, Tryd.ntmps10
      go_wp2_with fail
      refine T1.out.mono ?_
      rintro e w' ⟨rfl, rfl⟩
      go_wp2_with fail
      refine T2.out.mono ?_
      rintro e w' ⟨rfl, rfl⟩
      go_wp2_with (go_at_call 23; refine (order_any _ _).mono ?_; rintro e w' ⟨rfl, rfl⟩)
      go_ret
      refine ⟨ret_int ?_, 0, rfl⟩
      have := cmp_len (a := val ys) (b := val xs) (by rw [HA.out, HB.out]; omega)
      have h1 : ¬ val xs < val ys := by omega
      have h2 : ¬ val xs = val ys := by omega
      simp [cmpN, ordB, h1, h2]
end Go.Proofs.YtpbdmpimojebgaaDoor
