/- What 'append(nil, s...)' wants of a source: its cells by the address, and nothing where there is none. -/
import Derived.Test.YtfhalmlpnoepcaaGreatJL
namespace Go.Proofs.YtfhalmlpnoepcaaGreat
open Go.RowKit

theorem nums_src {w : World} {a : Option Addr} {c : Nat} {l : List Int} (h : IsNums w a c l) : (∀ ad, a = some ad → ∀ j u, (l.flatMap cellsI)[j]? = some u → w.cell? (ad.add j) = some u) ∧ (a = none → l.length = 0) ∧ (∀ u ∈ l.flatMap cellsI, u.oneCell' = true) ∧ (l.flatMap cellsI).length = l.length * 1 := by
  refine ⟨?_, ?_, ?_, flat_len cellsI 1 (fun _ => rfl) l⟩
  · rintro ad rfl
    rcases h with rfl | ⟨b, off, e, _, _, _, hp⟩
    · intro j u hu
      simp at hu
    · injection e with e
      subst e
      refine news_of cellsI 1 (by omega) (fun _ => rfl) fun j x hj i u hu => ?_
      obtain ⟨rfl, rfl⟩ : i = 0 ∧ u = .int .i64 x := by
        cases i with
        | zero => exact ⟨rfl, by simpa [cellsI] using hu.symm⟩
        | succ i => simp [cellsI] at hu
      exact hp j x hj
  · rintro rfl
    rcases h with rfl | ⟨b, off, e, _⟩
    · rfl
    · cases e
  · intro u hu
    obtain ⟨x, _, hx⟩ := List.mem_flatMap.1 hu
    obtain rfl : u = .int .i64 x := by simpa [cellsI] using hx
    rfl
theorem prts_src {w : World} {a : Option Addr} {c : Nat} {l : List Prt} (h : IsPrts w a c l) : (∀ ad, a = some ad → ∀ j u, (l.flatMap cellsPrt)[j]? = some u → w.cell? (ad.add j) = some u) ∧ (a = none → l.length = 0) ∧ (∀ u ∈ l.flatMap cellsPrt, u.oneCell' = true) ∧ (l.flatMap cellsPrt).length = l.length * 2 := by
  refine ⟨?_, ?_, ?_, flat_len cellsPrt 2 (fun _ => rfl) l⟩
  · rintro ad rfl
    rcases h with rfl | ⟨b, off, e, _, _, _, hp⟩
    · intro j u hu
      simp at hu
    · injection e with e
      subst e
      refine news_of cellsPrt 2 (by omega) (fun _ => rfl) fun j x hj i u hu => ?_
      obtain ⟨z0, z1⟩ := hp j x hj
      match i, hu with
      | 0, hu => obtain rfl : u = .int .i64 x.plot := by simpa [cellsPrt] using hu.symm
                 exact z0
      | 1, hu => obtain rfl : u = .int .i64 x.loads := by simpa [cellsPrt] using hu.symm
                 exact z1
      | i + 2, hu => simp [cellsPrt] at hu
  · rintro rfl
    rcases h with rfl | ⟨b, off, e, _⟩
    · rfl
    · cases e
  · intro u hu
    obtain ⟨x, _, hx⟩ := List.mem_flatMap.1 hu
    rcases (show u = .int .i64 x.plot ∨ u = .int .i64 x.loads by simpa [cellsPrt] using hx) with rfl | rfl
    · rfl
    · rfl

end Go.Proofs.YtfhalmlpnoepcaaGreat
