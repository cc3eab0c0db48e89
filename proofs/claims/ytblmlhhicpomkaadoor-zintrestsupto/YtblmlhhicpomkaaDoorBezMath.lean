/-
  Plain mathematics, no Go: Euclid's row of rests with what each rest is made of.
-/
import Derived.Test.YtblmlhhicpomkaaDoorSetI
namespace Go.Proofs.YtblmlhhicpomkaaDoor.Nt

/-- Two neighbours a, b of the row of m and n; x and y tell how often n is in them, of unlike signs, but for multiples of m. -/
structure Bz (m n a b x y : Nat) (minus : Bool) : Prop where
  all : a * y + b * x = m
  pos : 1 ≤ a
  gcd : Nat.gcd a b = Nat.gcd m n
  ca : ∃ k : Int, (a : Int) = (if minus then -((x : Int) * (n : Int)) else (x : Int) * (n : Int)) + k * (m : Int)
  cb : ∃ k : Int, (b : Int) = (if minus then (y : Int) * (n : Int) else -((y : Int) * (n : Int))) + k * (m : Int)

theorem Bz.start {m n : Nat} (hm : m ≠ 0) : Bz m n m n 0 1 true :=
  ⟨by omega, by omega, rfl, ⟨1, by simp⟩, ⟨0, by simp⟩⟩
/-- On by one place. -/
theorem Bz.one {m n a b x y : Nat} {minus : Bool} (h : Bz m n a b x y minus) (hb : b ≠ 0) : Bz m n b (a % b) y (x + a / b * y) (!minus) := by
  obtain ⟨q, hq⟩ : ∃ q, a / b = q := ⟨_, rfl⟩
  obtain ⟨r, hr⟩ : ∃ r, a % b = r := ⟨_, rfl⟩
  have e := Nat.div_add_mod a b
  have hgc : Nat.gcd b (a % b) = Nat.gcd m n := by rw [Nat.gcd_comm, ← h.gcd, Nat.gcd_comm a b, Nat.gcd_rec b a]
  rw [hq, hr] at e
  rw [hr] at hgc
  rw [hq, hr]
  clear hq hr
  obtain ⟨k, hk⟩ := h.ca
  obtain ⟨l, hl⟩ := h.cb
  have hall := h.all
  clear h
  have e' : (r : Int) = (a : Int) - (q : Int) * (b : Int) := by
    have : ((b * q + r : Nat) : Int) = (a : Int) := by rw [e]
    rw [Int.natCast_add, Int.natCast_mul, Int.mul_comm] at this
    omega
  refine ⟨?_, by omega, hgc, ?_, ?_⟩
  · subst e
    rw [← hall]
    clear hk hl e' hall
    grind
  · refine ⟨l, ?_⟩
    cases minus <;> simpa using hl
  · refine ⟨k - q * l, ?_⟩
    rw [e', hk, hl]
    clear e hgc hall e' hk hl hb
    simp only [Int.natCast_add, Int.natCast_mul]
    cases minus <;> simp <;> grind
/-- On by many places. -/
theorem Bz.many {m n a b x y U0 V0 U1 V1 a' b' : Nat} {minus odd : Bool} (h : Bz m n a b x y minus)
    (hc : odd = true ∧ V0 * b = a' + U0 * a ∧ U1 * a = b' + V1 * b ∨ odd = false ∧ U0 * a = a' + V0 * b ∧ V1 * b = b' + U1 * a) (hlt : b' < a') (hg : Nat.gcd a' b' = Nat.gcd a b) (hd : odd = true ∧ U1 * V0 = 1 + U0 * V1 ∨ odd = false ∧ U0 * V1 = 1 + U1 * V0) :
    Bz m n a' b' (U0 * x + V0 * y) (U1 * x + V1 * y) (minus != odd) := by
  obtain ⟨k, hk⟩ := h.ca
  obtain ⟨l, hl⟩ := h.cb
  have hall := h.all
  rcases hc with ⟨rfl, e1, e2⟩ | ⟨rfl, e1, e2⟩
  · have d : U1 * V0 = 1 + U0 * V1 := by rcases hd with ⟨_, d⟩ | ⟨h, _⟩; exact d; cases h
    have e1' : (V0 : Int) * b = a' + U0 * a := by exact_mod_cast e1
    have e2' : (U1 : Int) * a = b' + V1 * b := by exact_mod_cast e2
    have d' : (U1 : Int) * V0 = 1 + U0 * V1 := by exact_mod_cast d
    have hall' : (a : Int) * y + b * x = m := by exact_mod_cast hall
    refine ⟨?_, by omega, hg.trans h.gcd, ⟨V0 * l - U0 * k, ?_⟩, ⟨U1 * k - V1 * l, ?_⟩⟩
    · have : ((a' * (U1 * x + V1 * y) + b' * (U0 * x + V0 * y) : Nat) : Int) = (m : Int) := by
        simp only [Int.natCast_add, Int.natCast_mul]
        have ea : (a' : Int) = V0 * b - U0 * a := by omega
        have eb : (b' : Int) = U1 * a - V1 * b := by omega
        rw [ea, eb, ← hall']
        grind
      exact_mod_cast this
    · have ea : (a' : Int) = V0 * b - U0 * a := by omega
      rw [ea, hk, hl]
      clear ea
      clear hk hl e1 e2 e1' e2' d d' hall hall' hlt hg hd h
      cases minus <;> simp <;> grind
    · have eb : (b' : Int) = U1 * a - V1 * b := by omega
      rw [eb, hk, hl]
      clear eb
      clear hk hl e1 e2 e1' e2' d d' hall hall' hlt hg hd h
      cases minus <;> simp <;> grind
  · have d : U0 * V1 = 1 + U1 * V0 := by rcases hd with ⟨h, _⟩ | ⟨_, d⟩; cases h; exact d
    have e1' : (U0 : Int) * a = a' + V0 * b := by exact_mod_cast e1
    have e2' : (V1 : Int) * b = b' + U1 * a := by exact_mod_cast e2
    have d' : (U0 : Int) * V1 = 1 + U1 * V0 := by exact_mod_cast d
    have hall' : (a : Int) * y + b * x = m := by exact_mod_cast hall
    refine ⟨?_, by omega, hg.trans h.gcd, ⟨U0 * k - V0 * l, ?_⟩, ⟨V1 * l - U1 * k, ?_⟩⟩
    · have : ((a' * (U1 * x + V1 * y) + b' * (U0 * x + V0 * y) : Nat) : Int) = (m : Int) := by
        simp only [Int.natCast_add, Int.natCast_mul]
        have ea : (a' : Int) = U0 * a - V0 * b := by omega
        have eb : (b' : Int) = V1 * b - U1 * a := by omega
        rw [ea, eb, ← hall']
        grind
      exact_mod_cast this
    · have ea : (a' : Int) = U0 * a - V0 * b := by omega
      rw [ea, hk, hl]
      clear ea
      clear hk hl e1 e2 e1' e2' d d' hall hall' hlt hg hd h
      cases minus <;> simp <;> grind
    · have eb : (b' : Int) = V1 * b - U1 * a := by omega
      rw [eb, hk, hl]
      clear eb
      clear hk hl e1 e2 e1' e2' d d' hall hall' hlt hg hd h
      cases minus <;> simp <;> grind
theorem Bz.y_le {m n a b x y : Nat} {minus : Bool} (h : Bz m n a b x y minus) : y ≤ m := by
  have h1 := h.all
  have h2 : 1 * y ≤ a * y := Nat.mul_le_mul_right _ h.pos
  omega
theorem Bz.x_le {m n a b x y : Nat} {minus : Bool} (h : Bz m n a b x y minus) (hb : b ≠ 0) : x ≤ m := by
  have h1 := h.all
  have h2 : 1 * x ≤ b * x := Nat.mul_le_mul_right _ (by omega)
  omega
/-- At the row's end. -/
theorem Bz.last {m n a x y : Nat} {minus : Bool} (h : Bz m n a 0 x y minus) : a = Nat.gcd m n ∧ Nat.gcd m n * y = m ∧ ∃ k : Int, ((Nat.gcd m n : Nat) : Int) = (if minus then -(x : Int) else (x : Int)) * (n : Int) + k * (m : Int) := by
  have hg : a = Nat.gcd m n := by have := h.gcd; simpa using this
  refine ⟨hg, ?_, ?_⟩
  · have := h.all; rw [hg] at this; simpa using this
  · obtain ⟨k, hk⟩ := h.ca
    refine ⟨k, ?_⟩
    rw [← hg, hk]
    cases minus <;> simp <;> grind
end Go.Proofs.YtblmlhhicpomkaaDoor.Nt
