/- Great: whether a roof is more than the statements look at. -/
import Derived.Test.YtpdgcajbdaleeaaR
namespace Go.Proofs.Ytpdgcajbdaleeaa
open Go.RowKit

/-- What Great returns: some bool; false only of a roof of bounded size. -/
def GreatSaid (R : Roo) (w : World) (e : Ending) (w' : World) : Prop :=
  Below w.heap.size w w' ∧ ∃ b, e = .returned (.bool b) ∧ (b = false → R.fs.length ≤ 30 ∧ R.os.length ≤ 40 ∧ ∀ f ∈ R.fs, f.cs.length ≤ 30)

theorem mem_take_succ {α : Type} {l : List α} {j : Nat} {q : α} (h : l[j]? = some q) {P : α → Prop} (h1 : ∀ f ∈ l.take j, P f) (h2 : P q) : ∀ f ∈ l.take (j + 1), P f := by
  intro x hx
  rw [List.take_add_one, h] at hx
  rcases List.mem_append.1 hx with hx | hx
  · exact h1 x hx
  · obtain rfl : x = q := by simpa using hx
    exact h2

set_option maxRecDepth 100000 in
set_option maxHeartbeats 4000000 in
theorem great_any (R : Roo) (w : World) (hR : IsRoof w R) :
    Calls Try.prog 8 #[.agg #[.slice R.fa R.fs.length R.fc, .slice R.oa R.os.length R.oc]] w (GreatSaid R w) := by
  have hlf : R.fs.length ≤ 9223372036854775807 := by
    rcases hR.1 with ⟨_, h⟩ | ⟨_, _, _, _, _, h3, h4, _⟩
    · rw [h]; simp
    · omega
  have hlo : R.os.length ≤ 9223372036854775807 := by
    rcases hR.2 with ⟨_, h⟩ | ⟨_, _, _, _, _, h3, h4, _⟩
    · rw [h]; simp
    · omega
  obtain ⟨fa, fc, fs, oa, oc, os⟩ := R
  simp only [] at hlf hlo
  have kR : Blk (w.alloc (.cells #[.slice fa fs.length fc, .slice oa os.length oc] 25)) w.heap.size #[.slice fa fs.length fc, .slice oa os.length oc] 25 := Blk.new _ _ _
  have hB : Below w.heap.size w (w.alloc (.cells #[.slice fa fs.length fc, .slice oa os.length oc] 25)) := (Below.refl _ _).alloc (Nat.le_refl _) _
  have HR := Lib.hid hR
  clear hR
  by_cases h30 : 30 < fs.length
  · go_enter Try.func8, Try.ntmps8
    go_wp2_with fail
    go_ret
    exact ⟨hB, true, rfl, by simp⟩
  by_cases h40 : 40 < os.length
  · go_enter Try.func8, Try.ntmps8
    go_wp2_with fail
    go_ret
    exact ⟨hB, true, rfl, by simp⟩
  go_enter Try.func8, Try.ntmps8
  go_wp2_with fail
  go_loopw [3, 4] (fun s i wr => ∃ (j : Nat) (n : Int), j ≤ fs.length ∧ i = .int .i64 j ∧ s = .int .i64 n ∧ (∀ f ∈ fs.take j, f.cs.length ≤ 30) ∧ Blk wr w.heap.size #[.slice fa fs.length fc, .slice oa os.length oc] 25 ∧ Below w.heap.size w wr) (fun _ i _ => fs.length - (intOf i).toNat)
  case atStart => exact ⟨0, 0, Nat.zero_le _, rfl, rfl, by simp, kR, hB⟩
  case round =>
    obtain ⟨j, n, hj, rfl, rfl, hno, g1, g2⟩ := hrel
    have HNO := Lib.hid hno
    have hRr := HR.out.below g2
    clear hno
    have c0 := g1.cell 0
    simp only [List.getElem?_toArray, List.getElem?_cons_zero] at c0
    by_cases hlj : j < fs.length
    · rcases hRr.1 with ⟨_, hn⟩ | ⟨b, off, c, h1, h2, h3, h4, h5⟩
      · simp only [] at hn
        rw [hn] at hlj
        simp at hlj
      have hq : fs[j]? = some fs[j] := List.getElem?_eq_getElem hlj
      obtain ⟨⟨d0, d1, d2, d3, d4, d5, d6⟩, hfin, hnm⟩ := h5 j _ hq
      obtain ⟨rfl, _, rfl⟩ := slice_inj h1
      simp only [] at d0 d1 d2 d3 d4 d5 d6 h3 hnm
      have hcl : (fs[j]).cs.length ≤ 9223372036854775807 := by
        rcases hfin with ⟨_, h⟩ | ⟨_, _, _, _, _, h3, h4, _⟩
        · rw [h]; simp
        · omega
      generalize fs[j] = F at *
      have HQ := Lib.hid hq
      clear hq h1 h5 hRr hfin d1 d2 d3 d4 d5
      unfold maxLen at hnm
      have hj0 : (0 : Int) ≤ (j : Int) := Int.natCast_nonneg _
      have hj1 : (j : Int) < (fs.length : Int) := by omega
      by_cases h3 : 30 < F.cs.length
      · go_wp2_with fail
        go_ret
        exact ⟨g2, true, rfl, by simp⟩
      · go_wp2_with fail
        refine ⟨⟨j + 1, _, by omega, by simp, rfl, mem_take_succ HQ.out HNO.out (by omega), g1, g2⟩, by simp [intOf]; omega⟩
    · obtain rfl : j = fs.length := by omega
      have c1 := g1.cell 1
      simp only [List.getElem?_toArray, List.getElem?_cons_zero, List.getElem?_cons_succ] at c1
      clear hRr
      go_wp2_with fail
      obtain ⟨wq, rfl⟩ : ∃ wq : World, wq = wr := ⟨_, rfl⟩
      go_loopw [3, 5] (fun s i wr => ∃ (j : Nat) (n : Int), j ≤ os.length ∧ i = .int .i64 j ∧ s = .int .i64 n ∧ Blk wr w.heap.size #[.slice fa fs.length fc, .slice oa os.length oc] 25 ∧ Below w.heap.size w wr) (fun _ i _ => os.length - (intOf i).toNat)
      case atStart => exact ⟨0, n, Nat.zero_le _, rfl, rfl, g1, g2⟩
      case round =>
        clear c0 c1 g1 g2
        obtain ⟨j, m, hj, rfl, rfl, g1, g2⟩ := hrel
        have hRr := HR.out.below g2
        have c1 := g1.cell 1
        simp only [List.getElem?_toArray, List.getElem?_cons_zero, List.getElem?_cons_succ] at c1
        by_cases hlj : j < os.length
        · rcases hRr.2 with ⟨_, hn⟩ | ⟨b, off, c, h1, h2, h3, h4, h5⟩
          · simp only [] at hn
            rw [hn] at hlj
            simp at hlj
          have hq : os[j]? = some os[j] := List.getElem?_eq_getElem hlj
          obtain ⟨⟨d0, d1, d2, d3, d4, d5⟩, hnm⟩ := h5 j _ hq
          obtain ⟨rfl, _, rfl⟩ := slice_inj h1
          simp only [] at d0 d1 d2 d3 d4 d5 h3 hnm
          generalize os[j] = F at *
          clear hq h1 h5 hRr d1 d2 d3 d4 d5
          unfold maxLen at hnm
          have hj0 : (0 : Int) ≤ (j : Int) := Int.natCast_nonneg _
          have hj1 : (j : Int) < (os.length : Int) := by omega
          go_wp2_with fail
          refine ⟨⟨j + 1, _, by omega, by simp, rfl, g1, g2⟩, by simp [intOf]; omega⟩
        · obtain rfl : j = os.length := by omega
          clear hRr
          have hall := HNO.out
          rw [List.take_length] at hall
          have HAL := Lib.hid hall
          clear hall
          go_wp2_with fail
          go_ret
          exact ⟨g2, _, rfl, fun _ => ⟨Nat.le_of_not_lt h30, Nat.le_of_not_lt h40, HAL.out⟩⟩
end Go.Proofs.Ytpdgcajbdaleeaa
