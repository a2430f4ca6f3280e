/- sum: how many loads parts have, of a field or all. -/
import Derived.Test.YtghepojnimlafaaQJR
namespace Go.Proofs.Ytghepojnimlafaa
open Go.RowKit

def sumM (plot : Int) (l : List Prt) : Int := if plot < 0 then loadsM l else ofM plot l
theorem sumM_snoc (plot : Int) {l : List Prt} {j : Nat} {p : Prt} (h : l[j]? = some p) : sumM plot (l.take (j + 1)) = sumM plot (l.take j) + (if plot < 0 ∨ p.plot = plot then p.loads else 0) := by
  rw [take_snoc' h]
  unfold sumM
  by_cases h0 : plot < 0
  · rw [if_pos h0, if_pos h0, loadsM_append, if_pos (.inl h0)]
    simp [loadsM]
  · rw [if_neg h0, if_neg h0, ofM_append]
    simp [ofM, h0]
theorem sumM_bd (plot : Int) {n : Nat} {l : List Prt} (h : ∀ p ∈ l, p.ok n) : 0 ≤ sumM plot l ∧ sumM plot l ≤ 100000 * l.length := by
  unfold sumM
  split
  · exact loadsM_bd h
  · exact ofM_bd plot h
end Go.Proofs.Ytghepojnimlafaa
