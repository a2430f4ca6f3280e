/- lives, given. -/
import Derived.Test.YtmaehiomljnkgaaFF
import Derived.Test.YtmaehiomljnkgaaFG
import Derived.Deep.DeepCutAuto
import Derived.Deep.CutRange
import Derived.StillTailTactics
import Derived.Deep.QuietTactic
import Derived.BigQuiet
namespace Go.Proofs.Ytmaehiomljnkgaa
open Go.RowKit

set_option maxRecDepth 100000 in
theorem farm_e (n : Nat) : chooseE (farmF n) ⟨30, 10, 0⟩ = 0 := by kernel_rfl
set_option maxRecDepth 100000 in
theorem farm_m (n : Nat) : chooseM (farmF n).ps ⟨30, 10, 0⟩ = ⟨[0, 1], 70, true⟩ := by kernel_rfl

set_option maxRecDepth 100000 in
set_option maxHeartbeats 4000000 in
theorem lives_any (w : World) : Calls Try.prog 7 #[] w fun e w' => e = .returned (.bool true) ∧ Below w.heap.size w w' := by
  go_enter Try.func7, Try.ntmps7
  go_wp2_with fail
  refine (farm_any _).mono ?_
  rintro e w1 ⟨rfl, hR1, hb1⟩
  go_wp2_with fail
  refine (choose_any (farmF w.heap.size) ⟨30, 10, 0⟩ _ hR1).mono ?_
  rintro e w2 ⟨hb2, h⟩
  rcases h with ⟨h, _⟩ | ⟨_, _, ba, bc, rfl, hn, _⟩
  · exact absurd (farm_e _) h
  rw [farm_m] at hn ⊢
  have hB2 := hb1.trans (hb2.mono hb1.size)
  obtain ⟨g, cap, e, _, hg⟩ := hn.form (by decide)
  obtain ⟨rfl, _, rfl⟩ := slice_inj e
  have e0 := hn.cellAt 0 (by decide)
  have e1 := hn.cellAt 1 (by decide)
  simp only [natsV, List.map_cons, List.map_nil, List.getElem?_cons_zero, List.getElem?_cons_succ] at e0 e1
  have hcap : 2 ≤ bc := by
    rcases hn.2 with ⟨e, _⟩ | ⟨_, _, _, e, _, _, k, _⟩
    · cases e
    · obtain ⟨_, _, rfl⟩ := slice_inj e
      simpa using k
  go_wp2_with fail
  go_ret
  exact ⟨rfl, hB2⟩
end Go.Proofs.Ytmaehiomljnkgaa
