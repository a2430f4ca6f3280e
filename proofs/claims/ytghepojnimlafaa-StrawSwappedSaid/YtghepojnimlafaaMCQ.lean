/- after: the store behind chores from the first one on, as many as can be done. No condition. -/
import Derived.Test.YtghepojnimlafaaMAQ
set_option linter.unusedSimpArgs false
namespace Go.Proofs.Ytghepojnimlafaa
open Go.RowKit

/-- What after returns: a store, which may be if some chore was done. -/
def AfterSaid (F : Frm) (base : Nat) (e : Ending) (w' : World) : Prop := ∃ b T, e = .returned (.tuple #[stoV T, .bool b]) ∧ OwnSto base w' T ∧ (b = true → storeE F T = 0 ∧ tot T ≤ 120)
theorem set_rows {base B : Nat} {w w' : World} {S : Sto} (h : OwnSto base w S) (ht : Turn (fun k => k = B) w w') (hB : B < base) : OwnSto base w' S :=
  h.turn ht (fun k e hk => by have h1 := (h.ge k hk).1; rw [show k = B from e] at h1; omega)
end Go.Proofs.Ytghepojnimlafaa
