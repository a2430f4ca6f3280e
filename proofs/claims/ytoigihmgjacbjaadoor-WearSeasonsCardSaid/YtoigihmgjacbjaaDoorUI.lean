/- Mathematics of thatchref07.agree: thicknesses of which all is true, beside thickE. No condition. -/
import Derived.Test.YtoigihmgjacbjaaDoorUG
import Derived.Test.YtoigihmgjacbjaaDoorVA
set_option linter.unusedSimpArgs false
namespace Go.Proofs.YtoigihmgjacbjaaDoor

/-- One mark beside the skin's thickness and beside another mark. -/
def farB (S : Skn) (a b : Mrk) : Bool := decide (a.th.lo ≤ b.th.hi + S.steep * distM a.at_ b.at_)
def selfB (S : Skn) (a : Mrk) : Bool := decide (a.th.lo ≤ S.th.hi) && decide (S.th.lo ≤ a.th.hi)
def agreeB (S : Skn) : Bool := S.ms.all fun a => selfB S a && S.ms.all fun b => farB S a b

theorem agreeB_iff {S : Skn} : agreeB S = true ↔ ∀ a ∈ S.ms, (a.th.lo ≤ S.th.hi ∧ S.th.lo ≤ a.th.hi) ∧ ∀ b ∈ S.ms, a.th.lo ≤ b.th.hi + S.steep * distM a.at_ b.at_ := by
  simp [agreeB, selfB, farB]
theorem thickE_agree {S : Skn} (hst : 0 ≤ S.steep) (hth : S.th.lo ≤ S.th.hi) : thickE S = if agreeB S = true then 0 else 10 := by
  by_cases h : agreeB S = true
  · rw [if_pos h]
    rw [agreeB_iff] at h
    refine thickE_ok fun m hm e => ?_
    rcases bound_is S.steep m.at_ S.ms S.th hth with ⟨_, h2⟩ | ⟨h1, h2⟩
    · have key : loF S.steep m.at_ S.th.lo S.ms ≤ hiF S.steep m.at_ S.th.hi S.ms := by
        refine (loF_le S.steep m.at_ _ S.ms S.th.lo).2 ⟨?_, fun a ha => ?_⟩
        · refine (le_hiF S.steep m.at_ _ S.ms S.th.hi).2 ⟨hth, fun b hb => ?_⟩
          have k1 := (h b hb).1.2
          have k2 := Int.mul_nonneg hst (dist_pos b.at_ m.at_)
          omega
        · refine (le_hiF S.steep m.at_ _ S.ms S.th.hi).2 ⟨?_, fun b hb => ?_⟩
          · have k1 := (h a ha).1.1
            have k2 := Int.mul_nonneg hst (dist_pos a.at_ m.at_)
            omega
          · have k1 := (h a ha).2 b hb
            have k2 := st_tri hst a.at_ m.at_ b.at_
            rw [dist_comm m.at_ b.at_] at k2
            omega
      omega
    · have e' : boundF S.steep S.th m.at_ S.ms = nothingS := e
      rw [e'] at h1
      have h3 := congrArg Spn.lo h1
      have h4 := congrArg Spn.hi h1
      simp only [nothingS] at h3 h4
      omega
  · rw [if_neg h]
    have hn : ¬ ∀ m ∈ S.ms, boundM S m.at_ ≠ nothingS := fun hall => by
      refine h (agreeB_iff.2 fun a ha => ?_)
      rcases bound_is S.steep a.at_ S.ms S.th hth with ⟨h1, _⟩ | ⟨_, h2⟩
      · exact absurd h1 (hall a ha)
      have k1 := (loF_le S.steep a.at_ _ S.ms S.th.lo).1 h2
      have k2 := k1.2 a ha
      rw [dist_self, Int.mul_zero] at k2
      have k3 := (le_hiF S.steep a.at_ _ S.ms S.th.hi).1 k1.1
      have k4 := k3.2 a ha
      rw [dist_self, Int.mul_zero] at k4
      have k5 := (le_hiF S.steep a.at_ _ S.ms S.th.hi).1 k2
      refine ⟨⟨by omega, by omega⟩, fun b hb => ?_⟩
      have k6 := k5.2 b hb
      rw [dist_comm a.at_ b.at_]
      omega
    unfold thickE
    rw [if_pos]
    rw [List.any_eq_true]
    false_or_by_contra
    rename_i hc
    exact hn fun m hm e => hc ⟨m, hm, by simpa using e⟩
end Go.Proofs.YtoigihmgjacbjaaDoor
