import Derived.Test.YtdiagoaakadniaaGreatCoA
import Derived.Test.YtdiagoaakadniaaGreatCoB
import Derived.Test.YtdiagoaakadniaaGreatMkC
import Derived.Test.YtdiagoaakadniaaGreatMkD
namespace Go.Proofs.YtdiagoaakadniaaGreat
open Go Go.RowKit Nt
set_option linter.unusedSimpArgs false
set_option linter.unusedVariables false
set_option maxRecDepth 20000
set_option maxHeartbeats 16000000

abbrev CoG (n m Kb K : Nat) (Bm : List (List Int)) (ts : List (Int × Int)) (ψ : Nat → Pr) : Prop := ∀ w u v, Hs w (Mv n Bm Kb) u → Hs w (QV m ts K) v → Calls Tryz.prog 5 #[u, v] w (Gives ψ w)
abbrev CoE (e : Int) : Nat → Pr := THREE (IS (.slice none 0 0)) (IS (.agg #[.bool false, .slice none 0 0, .bool false, .slice none 0 0])) (IS (.int .i64 e))
abbrev CoP (n : Nat) (X : List Int) (d : Nat) (P : Int) (Q : Nat) : Nat → Pr := THREE (LF 4 n (X.map (fun x => QQ x d))) (QQ P Q) (IS (.int .i64 0))
abbrev coG (Bm : List (List Int)) (ts : List (Int × Int)) (m : Nat) : Nat → Nat → Int := gr (bxT Bm (tlL ts (cmN ts m)))
theorem yfq {x : Nat → Int} {n i : Nat} (h : i < n) : ((List.range n).map x).getD i 0 = x i := by
 rw [List.getD_eq_getElem?_getD, List.getElem?_map, List.getElem?_range h]
 rfl
theorem tl_dl {ts : List (Int × Int)} {m E : Nat} (lt : ts.length = m) (ok : DenOk ts) (hT : ∀ k, k < m → (digs (ts.getD k (0, 0)).1.natAbs).length + dsum ts m ≤ E) : Dl (tlL ts (cmN ts m)) E := fun i z hz => by
 have hi : i < ts.length := by
  have := (List.getElem?_eq_some_iff.1 hz).1
  rw [tl_len] at this
  exact this
 rw [tl_get' hi] at hz
 obtain rfl := Option.some.inj hz
 have h1 := hT i (by omega)
 have h2 := yjy ok m (by omega)
 refine Nat.le_trans (ybx (Nat.le_refl _) ?_) h1
 rw [Int.natAbs_natCast]
 exact Nat.le_trans (yai (Nat.div_le_self _ _)) h2
section
variable {n m Kb K : Nat} {Bm : List (List Int)} {ts : List (Int × Int)}
end
end Go.Proofs.YtdiagoaakadniaaGreat
