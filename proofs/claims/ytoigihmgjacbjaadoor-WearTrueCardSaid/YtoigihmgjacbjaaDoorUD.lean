/- A list of hills among the arguments, opened. No condition. -/
import Derived.Test.YtoigihmgjacbjaaDoorUC
import Derived.Test.YtoigihmgjacbjaaDoorVZ
set_option linter.unusedSimpArgs false
namespace Go.Proofs.YtoigihmgjacbjaaDoor
open Go.ChangeShapes Go.WideShapes Go.ChangeAt Go.RowKit Go.Deep
theorem cells_hill : Tryd.prog.cellsOf 81 = 3 := by kernel_rfl
theorem cells_u16 : Tryd.prog.cellsOf 79 = 1 := by kernel_rfl
theorem u16_bd {n : Int} (h : (Lit.int .u16 n).wf = true) : 0 ≤ n ∧ n ≤ 65535 := by
  simp only [Lit.wf, Bool.and_eq_true, decide_eq_true_eq] at h
  exact h
section
variable {H : Type} {enc : TypeId × Value → H} {W : World} {base : Nat} {sp : Nat → Bool} {held : Bool}
set_option maxRecDepth 100000 in
theorem open_hill' {n : Nat} {cs : List Value} {x : DataW H × List MemPlace} (h : DataW.trod enc Tryd.prog W base sp held n 81 cs = some x) : ∃ F : Hil, cs = (hilC F).toList ∧ 0 ≤ F.hi ∧ F.hi ≤ 65535 := by
  obtain ⟨xs, n', _, hx, hcl, hlen, hf⟩ := DataW.trod_struct Tryd.underlying81 h
  rw [cells_hill] at hcl
  match cs, xs, hcl, hlen with
  | [c0, c1, c2], [y0, y1], _, _ =>
    have h0 := trod_at hf 0 45 0 2 rfl cells_pt
    have h1 := trod_at hf 1 79 2 1 rfl cells_u16
    simp only [List.drop, List.take] at h0 h1
    obtain ⟨a, b, e0⟩ := open_pt' h0
    obtain ⟨i1, e1, _, hw⟩ := DataW.trod_int Tryd.underlying79 h1
    simp only [List.cons.injEq, and_true] at e0 e1
    have := u16_bd hw
    exact ⟨⟨⟨a, b⟩, i1⟩, by simp [hilC, e0.1, e0.2, e1], this.1, this.2⟩
set_option maxRecDepth 100000 in
theorem open_hills {b0 : Nat} {v : Value} {d : DataW H} {ps : List MemPlace} (hv : Value.okWide Tryd.prog W .any b0 42 v) (h : DataW.Trod enc Tryd.prog W base sp held 42 v d ps) :
    ∃ a c l, v = .slice a (l : List Hil).length c ∧ IsHils W a c l := by
  obtain ⟨fuel, hg⟩ := h
  obtain ⟨a0, len0, cap0, rfl⟩ := okWide_slice Tryd.underlying42 hv
  have hv2 : Cell.okWide Tryd.prog W .any b0 42 (.slice a0 len0 cap0) := by
    unfold Value.okWide at hv
    rw [Tryd.underlying42] at hv
    exact hv
  have hg : DataW.trod enc Tryd.prog W base sp held fuel 42 [.slice a0 len0 cap0] = some (d, ps) := hg
  rcases open_slice Tryd.underlying42 hg with ⟨hcs, _⟩ | ⟨a, len, cap, m, n', D, Pl, hcs, hb, hl, hm, hmm, _, hx⟩
  · simp only [List.cons.injEq, and_true] at hcs
    rw [hcs]
    exact ⟨none, 0, [], rfl, .inl rfl, fun h hh => by cases hh⟩
  · simp only [List.cons.injEq, and_true] at hcs
    rw [hcs] at hv2 ⊢
    obtain ⟨hs, hblk⟩ := slice_place Tryd.underlying42 hv2
    obtain ⟨b, off, spot⟩ := a
    simp only [] at hs hblk
    subst hs
    have hlm : len ≤ m := by rw [hmm]; split <;> omega
    obtain ⟨l, hll, hp⟩ := list_of (p := fun i (F : Hil) => (∀ k, k < 3 → W.cell? ⟨b, off + i * 3 + k, none⟩ = (hilC F)[k]?) ∧ 0 ≤ F.hi ∧ F.hi ≤ 65535) (n := len) fun i hi => by
      obtain ⟨cs', h1, h2⟩ := hx i (by omega)
      rw [cells_hill] at h1
      obtain ⟨_, _, hcell⟩ := World.cells?_some h1
      obtain ⟨F, rfl, hr⟩ := open_hill' h2
      exact ⟨F, fun k hk => by
        have := hcell k hk
        rw [add_add, add_plain, ← Nat.add_assoc] at this
        rw [this, Array.getElem?_toList], hr⟩
    subst hll
    unfold maxLen at hm
    refine ⟨_, cap, l, rfl, .inr ⟨b, off, rfl, hblk, hl, by omega, fun j h hj => (hp j h hj).1⟩, fun h hh => ?_⟩
    obtain ⟨j, hj⟩ := List.getElem?_of_mem hh
    exact (hp j h hj).2
end
end Go.Proofs.YtoigihmgjacbjaaDoor
