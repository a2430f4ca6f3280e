/- A list of numbers among the arguments, opened: whatever reads as data of this type is a list of numbers in memory. -/
import Derived.Test.YtmcmhgjlpffcnaaPY
set_option linter.unusedSimpArgs false
namespace Go.Proofs.Ytmcmhgjlpffcnaa
open Go.ChangeShapes Go.WideShapes Go.ChangeAt Go.RowKit Go.Deep
section
variable {H : Type} {enc : TypeId × Value → H} {W : World} {base : Nat} {sp : Nat → Bool} {held : Bool}

set_option maxRecDepth 100000 in
theorem open_ints {b0 : Nat} {v : Value} {d : DataW H} {ps : List MemPlace} (hv : Value.okWide Try.prog W .any b0 25 v) (h : DataW.Trod enc Try.prog W base sp held 25 v d ps) :
    ∃ a c l, v = .slice a (l : List Int).length c ∧ IsInts W a c l := by
  obtain ⟨fuel, hg⟩ := h
  obtain ⟨a0, len0, cap0, rfl⟩ := okWide_slice Try.underlying25 hv
  have hg : DataW.trod enc Try.prog W base sp held fuel 25 [.slice a0 len0 cap0] = some (d, ps) := hg
  rcases open_slice Try.underlying25 hg with ⟨hcs, _⟩ | ⟨a, len, cap, m, n', D, Pl, hcs, hb, hl, hm, hmm, _, hx⟩
  · simp only [List.cons.injEq, and_true] at hcs
    rw [hcs]
    exact ⟨none, 0, [], rfl, .inl rfl⟩
  · simp only [List.cons.injEq, and_true] at hcs
    rw [hcs]
    have hlm : len ≤ m := by rw [hmm]; split <;> omega
    obtain ⟨l, hll, hp⟩ := list_of (p := fun i (p : Int) => W.cell? (a.add i) = some (.int .i64 p)) (n := len) fun i hi => by
      obtain ⟨cs', h1, h2⟩ := hx i (by omega)
      rw [cells_int] at h1
      obtain ⟨hl1, _, hcell⟩ := World.cells?_some h1
      obtain ⟨p, e, _, _⟩ := DataW.trod_int Try.underlying3 h2
      subst e
      have := hcell 0 (by simp)
      rw [add_add] at this
      rw [Nat.mul_one, Nat.add_zero] at this
      exact ⟨p, this⟩
    rcases Nat.eq_zero_or_pos len with h0 | h0
    · subst h0
      have : l = [] := List.eq_nil_of_length_eq_zero hll
      subst this
      exact ⟨some a, cap, [], rfl, .inl rfl⟩
    · obtain ⟨b, off, spot⟩ := a
      have hq : l[0]? = some l[0] := List.getElem?_eq_getElem (by omega)
      have hc0 : W.cell? (Addr.add ⟨b, off, spot⟩ 0) = some (.int .i64 l[0]) := hp 0 _ hq
      have hspot : spot = none := by simpa [Addr.add] using World.cell?_spot hc0
      subst hspot
      subst hll
      unfold maxLen at hm
      refine ⟨_, cap, l, rfl, .inr ⟨b, off, rfl, by simpa [Addr.add] using World.block_lt_of_cell? _ _ hc0, hl, by omega, fun j p hj => ?_⟩⟩
      have c := hp j p hj
      rw [add_plain] at c
      show W.cell? ⟨b, off + j * 1, none⟩ = _
      rw [Nat.mul_one]
      exact c
end
end Go.Proofs.Ytmcmhgjlpffcnaa
