/- A list of chores among the arguments, opened, with the range of each chore's number of a field. (made out of XKX.tpl by genMV.py) -/
import Derived.Test.YtghepojnimlafaaKXQ
namespace Go.Proofs.Ytghepojnimlafaa
open Go.ChangeShapes Go.WideShapes Go.ChangeAt Go.RowKit Go.Deep

section
variable {H : Type} {enc : TypeId × Value → H} {W : World} {base : Nat} {sp : Nat → Bool} {held : Bool}

set_option maxRecDepth 100000 in
theorem open_choreR {n : Nat} {cs : List Value} {x : DataW H × List MemPlace} (h : DataW.trod enc Try.prog W base sp held n 40 cs = some x) : ∃ F : Chr, cs = (chrC F).toList ∧ F.name.size ≤ maxLen ∧ F.other.size ≤ maxLen ∧ (-9223372036854775808 ≤ F.plot ∧ F.plot ≤ 9223372036854775807) := by
  obtain ⟨xs, n', rfl, _, hcl, hlen, hf⟩ := DataW.trod_struct Try.underlying40 h
  rw [cells_chore] at hcl
  match cs, xs, hcl, hlen with
  | [c0, c1, c2, c3, c4, c5, c6, c7, c8], [y0, y1, y2, y3, y4, y5, y6, y7], _, _ =>
    have h0 := trod_at hf 0 38 0 1 rfl cells_kind
    have h1 := trod_at hf 1 3 1 1 rfl cells_int
    have h2 := trod_at hf 2 3 2 1 rfl cells_int
    have h3 := trod_at hf 3 9 3 1 rfl cells_name
    have h4 := trod_at hf 4 9 4 1 rfl cells_name
    have h5 := trod_at hf 5 3 5 1 rfl cells_int
    have h6 := trod_at hf 6 3 6 1 rfl cells_int
    have h7 := trod_at hf 7 35 7 2 rfl cells_span
    simp only [List.drop, List.take] at h0 h1 h2 h3 h4 h5 h6 h7
    obtain ⟨i0, e0, _, _⟩ := DataW.trod_int Try.underlying38 h0
    obtain ⟨i1, e1, _, hw1⟩ := DataW.trod_int Try.underlying3 h1
    obtain ⟨i2, e2, _, _⟩ := DataW.trod_int Try.underlying3 h2
    obtain ⟨s3, e3, _, hs3⟩ := DataW.trod_string Try.underlying9 h3
    obtain ⟨s4, e4, _, hs4⟩ := DataW.trod_string Try.underlying9 h4
    obtain ⟨i5, e5, _, _⟩ := DataW.trod_int Try.underlying3 h5
    obtain ⟨i6, e6, _, _⟩ := DataW.trod_int Try.underlying3 h6
    obtain ⟨a7, b7, e7⟩ := open_span h7
    simp only [List.cons.injEq, and_true] at e0 e1 e2 e3 e4 e5 e6 e7
    exact ⟨⟨i0, i1, i2, s3, s4, i5, i6, a7, b7⟩, by simp [e0, e1, e2, e3, e4, e5, e6, e7.1, e7.2], hs3, hs4, by have := hw1; simp only [Lit.wf, Bool.and_eq_true, decide_eq_true_eq] at this; exact this⟩

set_option maxRecDepth 100000 in
/-- **An argument of type []api.Chore is a list of chores in memory.** -/
theorem open_choresR {b0 : Nat} {v : Value} {d : DataW H} {ps : List MemPlace} (hv : Value.okWide Try.prog W .any b0 25 v) (h : DataW.Trod enc Try.prog W base sp held 25 v d ps) :
    ∃ a c l, v = .slice a (l : List Chr).length c ∧ IsChrs W a c l ∧ ∀ x ∈ l, -9223372036854775808 ≤ x.plot ∧ x.plot ≤ 9223372036854775807 := by
  obtain ⟨fuel, hg⟩ := h
  obtain ⟨a0, len0, cap0, rfl⟩ := okWide_slice Try.underlying25 hv
  have hv2 : Cell.okWide Try.prog W .any b0 25 (.slice a0 len0 cap0) := by
    unfold Value.okWide at hv
    rw [Try.underlying25] at hv
    exact hv
  have hg : DataW.trod enc Try.prog W base sp held fuel 25 [.slice a0 len0 cap0] = some (d, ps) := hg
  rcases open_slice Try.underlying25 hg with ⟨hcs, _⟩ | ⟨a, len, cap, m, n', D, Pl, hcs, hb, hl, hm, hmm, _, hx⟩
  · simp only [List.cons.injEq, and_true] at hcs
    rw [hcs]
    exact ⟨none, 0, [], rfl, .inl rfl, fun x hx => by cases hx⟩
  · simp only [List.cons.injEq, and_true] at hcs
    rw [hcs] at hv2 ⊢
    obtain ⟨hs, hblk⟩ := slice_place Try.underlying25 hv2
    obtain ⟨b, off, spot⟩ := a
    simp only [] at hs hblk
    subst hs
    have hlm : len ≤ m := by rw [hmm]; split <;> omega
    obtain ⟨l, hll, hp⟩ := list_of (p := fun i (F : Chr) => ChrAt W b (off + i * 9) F ∧ (-9223372036854775808 ≤ F.plot ∧ F.plot ≤ 9223372036854775807)) (n := len) fun i hi => by
      obtain ⟨cs', h1, h2⟩ := hx i (by omega)
      rw [cells_chore] at h1
      obtain ⟨_, _, hcell⟩ := World.cells?_some h1
      obtain ⟨F, rfl, hn1, hn2, hn3⟩ := open_choreR h2
      have c : ∀ k, k < 9 → W.cell? ⟨b, off + i * 9 + k, none⟩ = ((chrC F).toList)[k]? := fun k hk => by have := hcell k hk; rw [add_add, add_plain, ← Nat.add_assoc] at this; exact this
      exact ⟨F, ⟨⟨c 0 (by omega), c 1 (by omega), c 2 (by omega), c 3 (by omega), c 4 (by omega), c 5 (by omega), c 6 (by omega), c 7 (by omega), c 8 (by omega)⟩, hn1, hn2⟩, hn3⟩
    subst hll
    unfold maxLen at hm
    exact ⟨_, cap, l, rfl, .inr ⟨b, off, rfl, hblk, hl, by omega, fun j f hj => (hp j f hj).1⟩, fun x hx => by
      obtain ⟨j, hj⟩ := List.getElem?_of_mem hx
      exact (hp j x hj).2⟩
end
end Go.Proofs.Ytghepojnimlafaa
