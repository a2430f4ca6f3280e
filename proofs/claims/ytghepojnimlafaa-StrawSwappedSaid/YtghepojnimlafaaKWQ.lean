/- Chores in order: parted anywhere, on stores that read alike. No condition. -/
import Derived.Test.YtghepojnimlafaaQFC
import Derived.Test.YtghepojnimlafaaQKR
namespace Go.Proofs.Ytghepojnimlafaa
open Go.RowKit

theorem runL_keep {F : Frm} : ∀ {l : List Chr} {S : Sto}, storeE F S = 0 → storeE F (runL F S l).1 = 0
  | [], _, h => h
  | a :: l, S, h => by
    simp only [runL]
    by_cases h1 : (doD F S a).1 = 0
    · rw [if_pos h1]; exact runL_keep (keep_do h1)
    · rw [if_neg h1]; exact h
theorem runL_le {F : Frm} : ∀ {l : List Chr} {S : Sto}, (runL F S l).2.1 ≤ l.length ∧ ((runL F S l).2.2 = 0 ↔ (runL F S l).2.1 = l.length)
  | [], _ => ⟨Nat.le_refl _, by simp [runL]⟩
  | a :: l, S => by
    simp only [runL]
    by_cases h1 : (doD F S a).1 = 0
    · rw [if_pos h1]
      have ih := runL_le (F := F) (l := l) (S := (doD F S a).2)
      refine ⟨by simpa using ih.1, ?_⟩
      rw [ih.2]
      simp
    · rw [if_neg h1]
      simp [h1]
theorem runL_part {F : Frm} : ∀ {l : List Chr} {S : Sto} {k : Nat}, k ≤ (runL F S l).2.1 → ∃ T, allD F S (l.take k) T ∧ runL F T (l.drop k) = ((runL F S l).1, (runL F S l).2.1 - k, (runL F S l).2.2)
  | [], S, k, h => by
    obtain rfl : k = 0 := by simpa [runL] using h
    exact ⟨S, rfl, rfl⟩
  | a :: l, S, 0, _ => ⟨S, rfl, rfl⟩
  | a :: l, S, k + 1, h => by
    simp only [runL] at h ⊢
    by_cases h1 : (doD F S a).1 = 0
    · rw [if_pos h1] at h ⊢
      obtain ⟨T, h2, h3⟩ := runL_part (F := F) (l := l) (S := (doD F S a).2) (k := k) (by simpa using h)
      refine ⟨T, ?_, by rw [List.drop_succ_cons, h3]; simp⟩
      unfold allD at h2 ⊢
      rw [List.take_succ_cons]
      simp only [runL]
      rw [if_pos h1, h2]
      rfl
    · rw [if_neg h1] at h
      simp at h
/-- The chores that are done, alone: they come to the same store. -/
theorem runL_done_alone {F : Frm} {l : List Chr} {S : Sto} : allD F S (l.take (runL F S l).2.1) (runL F S l).1 := by
  obtain ⟨T, h2, h3⟩ := runL_part (F := F) (l := l) (S := S) (Nat.le_refl _)
  have key : ∀ (m : List Chr) (U : Sto), (runL F U m).2.1 = 0 → (runL F U m).1 = U := by
    intro m U hm
    cases m with
    | nil => rfl
    | cons b m =>
      simp only [runL] at hm ⊢
      by_cases h1 : (doD F U b).1 = 0
      · rw [if_pos h1] at hm; simp at hm
      · rw [if_neg h1]
  have := key (l.drop (runL F S l).2.1) T (by rw [h3]; simp)
  rw [h3] at this
  simp only at this
  rw [← this] at h2
  exact h2
theorem same_run {F : Frm} : ∀ {l : List Chr} {S T : Sto}, SameSto S T → SameSto (runL F S l).1 (runL F T l).1 ∧ (runL F S l).2 = (runL F T l).2
  | [], _, _, h => ⟨h, rfl⟩
  | a :: l, S, T, h => by
    obtain ⟨h1, h2⟩ := same_do (F := F) h a
    simp only [runL]
    by_cases h3 : (doD F S a).1 = 0
    · rw [if_pos h3, if_pos (by rw [← h1]; exact h3)]
      obtain ⟨h4, h5⟩ := same_run (F := F) (l := l) h2
      exact ⟨h4, by rw [h5]⟩
    · rw [if_neg h3, if_neg (by rw [← h1]; exact h3)]
      exact ⟨h, by rw [h1]⟩
end Go.Proofs.Ytghepojnimlafaa
