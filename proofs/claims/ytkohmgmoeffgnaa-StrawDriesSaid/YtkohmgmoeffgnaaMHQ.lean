/- What a heap stands in, among the arguments, opened. -/
import Derived.Test.YtkohmgmoeffgnaaMGQ
import Derived.Test.YtkohmgmoeffgnaaKXQ
namespace Go.Proofs.Ytkohmgmoeffgnaa
open Go.ChangeShapes Go.WideShapes Go.ChangeAt Go.RowKit Go.Deep

theorem cells_wea : Try.prog.cellsOf 71 = 6 := by kernel_rfl
theorem cellTypes_wea : Try.prog.cellTypes Try.prog.depth 71 = some [5, 5, 5, 5, 68, 69] := by kernel_rfl
theorem cells_u8 : Try.prog.cellsOf 5 = 1 := by kernel_rfl
theorem cells_u16 : Try.prog.cellsOf 68 = 1 := by kernel_rfl
theorem cells_u8s : Try.prog.cellsOf 69 = 1 := by kernel_rfl
section
variable {H : Type} {enc : TypeId × Value → H} {W : World} {base : Nat} {sp : Nat → Bool} {held : Bool}
set_option maxRecDepth 100000 in
theorem open_u8s {n : Nat} {v : Value} {x : DataW H × List MemPlace} {b0 : Nat} (hv : Cell.okWide Try.prog W .any b0 69 v) (h : DataW.trod enc Try.prog W base sp held n 69 [v] = some x) :
    ∃ a c l, v = .slice a (l : List Int).length c ∧ IsU8s W a c l := by
  rcases open_slice Try.underlying69 h with ⟨hcs, _⟩ | ⟨a, len, cap, m, n', D, Pl, hcs, hb, hl, hm, hmm, _, hx⟩
  · simp only [List.cons.injEq, and_true] at hcs
    exact ⟨none, 0, [], hcs, .inl rfl⟩
  · simp only [List.cons.injEq, and_true] at hcs
    subst hcs
    obtain ⟨hs, hblk⟩ := slice_place Try.underlying69 hv
    obtain ⟨b, off, spot⟩ := a
    simp only [] at hs hblk
    subst hs
    obtain ⟨l, hll, hp⟩ := list_of (p := fun i (z : Int) => U8At W b (off + i * 1) z) (n := len) fun i hi => by
      obtain ⟨cs', h1, h2⟩ := hx i (by rw [hmm]; split <;> omega)
      rw [cells_u8] at h1
      obtain ⟨_, _, hcell⟩ := World.cells?_some h1
      obtain ⟨z, rfl, _, hw⟩ := DataW.trod_int Try.underlying5 h2
      have := hcell 0 (by omega)
      rw [add_add, add_plain] at this
      exact ⟨z, by simpa using this, u8_bd hw⟩
    subst hll
    unfold maxLen at hm
    exact ⟨_, cap, l, rfl, .inr ⟨b, off, rfl, hblk, hl, by omega, hp⟩⟩
abbrev weaV (x : Wea) : Value := .agg #[.int .u8 x.heap, .int .u8 x.days, .int .u8 x.rains, .int .u8 x.more, .int .u16 x.wet, .slice x.ra x.rates.length x.rc]
set_option maxRecDepth 100000 in
/-- **An argument of type Weather is what a heap stands in.** -/
theorem open_weather {b0 : Nat} {v : Value} {d : DataW H} {ps : List MemPlace} (hv : Value.okWide Try.prog W .any b0 71 v) (h : DataW.Trod enc Try.prog W base sp held 71 v d ps) :
    ∃ x : Wea, v = weaV x ∧ x.fine W := by
  obtain ⟨fuel, hf⟩ := h
  unfold Value.okWide at hv
  rw [Try.underlying71] at hv
  obtain ⟨cs, rfl, hsz, ts, hts, _, hall⟩ := hv
  rw [cells_wea] at hsz
  rw [cellTypes_wea] at hts
  obtain rfl := Option.some.inj hts
  obtain ⟨l⟩ := cs
  match l, hsz with
  | [v0, v1, v2, v3, v4, v5], _ =>
    obtain ⟨u5, hu5, k5⟩ := hall 5 v5 rfl
    obtain rfl : 69 = u5 := by simpa using hu5
    obtain ⟨xs, n', _, _, hcl, hlen, hg⟩ := DataW.trod_struct Try.underlying71 hf
    match xs, hlen with
    | [y0, y1, y2, y3, y4, y5], _ =>
      have h0 := trod_at hg 0 5 0 1 rfl cells_u8
      have h1 := trod_at hg 1 5 1 1 rfl cells_u8
      have h2 := trod_at hg 2 5 2 1 rfl cells_u8
      have h3 := trod_at hg 3 5 3 1 rfl cells_u8
      have h4 := trod_at hg 4 68 4 1 rfl cells_u16
      have h5 := trod_at hg 5 69 5 1 rfl cells_u8s
      simp only [Value.cells, List.drop, List.take] at h0 h1 h2 h3 h4 h5
      obtain ⟨x0, e0, _, g0⟩ := DataW.trod_int Try.underlying5 h0
      obtain ⟨x1, e1, _, g1⟩ := DataW.trod_int Try.underlying5 h1
      obtain ⟨x2, e2, _, g2⟩ := DataW.trod_int Try.underlying5 h2
      obtain ⟨x3, e3, _, g3⟩ := DataW.trod_int Try.underlying5 h3
      obtain ⟨x4, e4, _, g4⟩ := DataW.trod_int Try.underlying68 h4
      obtain ⟨a5, c5, l5, rfl, r5⟩ := open_u8s k5 h5
      simp only [List.cons.injEq, and_true] at e0 e1 e2 e3 e4
      subst e0 e1 e2 e3 e4
      exact ⟨⟨x0, x1, x2, x3, x4, a5, c5, l5⟩, rfl, g0, g1, g2, g3, g4, r5⟩
end
end Go.Proofs.Ytkohmgmoeffgnaa
