/- A list of readings among the arguments, opened. No condition. -/
import Derived.Test.YtoigihmgjacbjaaDoorVY
set_option linter.unusedSimpArgs false
namespace Go.Proofs.YtoigihmgjacbjaaDoor
open Go.ChangeShapes Go.WideShapes Go.ChangeAt Go.RowKit Go.Deep
section
variable {H : Type} {enc : TypeId × Value → H} {W : World} {base : Nat} {sp : Nat → Bool} {held : Bool}
set_option maxRecDepth 100000 in
theorem open_rdgs {b0 : Nat} {v : Value} {d : DataW H} {ps : List MemPlace} (hv : Value.okWide Tryd.prog W .any b0 43 v) (h : DataW.Trod enc Tryd.prog W base sp held 43 v d ps) :
    ∃ a c l, v = .slice a (l : List Rdg).length c ∧ IsRow4 rdgC W a c l := by
  obtain ⟨fuel, hg⟩ := h
  obtain ⟨a0, len0, cap0, rfl⟩ := okWide_slice Tryd.underlying43 hv
  have hv2 : Cell.okWide Tryd.prog W .any b0 43 (.slice a0 len0 cap0) := by
    unfold Value.okWide at hv
    rw [Tryd.underlying43] at hv
    exact hv
  have hg : DataW.trod enc Tryd.prog W base sp held fuel 43 [.slice a0 len0 cap0] = some (d, ps) := hg
  rcases open_slice Tryd.underlying43 hg with ⟨hcs, _⟩ | ⟨a, len, cap, m, n', D, Pl, hcs, hb, hl, hm, hmm, _, hx⟩
  · simp only [List.cons.injEq, and_true] at hcs
    rw [hcs]
    exact ⟨none, 0, [], rfl, .inl rfl⟩
  · simp only [List.cons.injEq, and_true] at hcs
    rw [hcs] at hv2 ⊢
    obtain ⟨hs, hblk⟩ := slice_place Tryd.underlying43 hv2
    obtain ⟨b, off, spot⟩ := a
    simp only [] at hs hblk
    subst hs
    have hlm : len ≤ m := by rw [hmm]; split <;> omega
    obtain ⟨l, hll, hp⟩ := list_of (p := fun i (F : Rdg) => ∀ k, k < 4 → W.cell? ⟨b, off + i * 4 + k, none⟩ = (rdgC F)[k]?) (n := len) fun i hi => by
      obtain ⟨cs', h1, h2⟩ := hx i (by omega)
      rw [cells_reading] at h1
      obtain ⟨_, _, hcell⟩ := World.cells?_some h1
      obtain ⟨F, rfl⟩ := open_rdg' h2
      exact ⟨F, fun k hk => by
        have := hcell k hk
        rw [add_add, add_plain, ← Nat.add_assoc] at this
        rw [this, Array.getElem?_toList]⟩
    subst hll
    unfold maxLen at hm
    exact ⟨_, cap, l, rfl, .inr ⟨b, off, rfl, hblk, hl, by omega, hp⟩⟩
end
end Go.Proofs.YtoigihmgjacbjaaDoor
