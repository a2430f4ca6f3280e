/- What is required: a panic with an error, unless it is so. -/
import Derived.Test.YtfhalmlpnoepcaaGreatGB
import Derived.Recover
import Derived.WalkSmall
namespace Go.Proofs.YtfhalmlpnoepcaaGreat
open Go.RowKit

theorem require_yes (x : Int) (w : World) : Calls Tryz.prog 37 #[.bool true, .int .i64 x] w fun e w' => e = .returned (.tuple #[]) ∧ w' = w := by
  go_enter Tryz.func37, Tryz.ntmps37
  go_wp2
  go_end0
  exact ⟨rfl, rfl⟩
theorem require_no (x : Int) (w : World) : Calls Tryz.prog 37 #[.bool false, .int .i64 x] w fun e w' => e = .panicked [{ v := .iface 38 (.int .i64 x), recovered := false }] ∧ w' = w := by
  go_enter Tryz.func37, Tryz.ntmps37
  go_wp2
  exact ⟨rfl, rfl, rfl⟩
/-- A call that may be left by a panic with an error: either it is so, or it isn't and the chain bears the error. -/
theorem require_any (b : Bool) (x : Int) (w : World) : Calls Tryz.prog 37 #[.bool b, .int .i64 x] w fun e w' =>
    ((b = true ∧ e = .returned (.tuple #[])) ∨ (b = false ∧ e = .panicked [{ v := .iface 38 (.int .i64 x), recovered := false }])) ∧ w' = w := by
  cases b with
  | true => exact (require_yes x w).mono fun _ _ ⟨h, h2⟩ => ⟨.inl ⟨rfl, h⟩, h2⟩
  | false => exact (require_no x w).mono fun _ _ ⟨h, h2⟩ => ⟨.inr ⟨rfl, h⟩, h2⟩

end Go.Proofs.YtfhalmlpnoepcaaGreat
