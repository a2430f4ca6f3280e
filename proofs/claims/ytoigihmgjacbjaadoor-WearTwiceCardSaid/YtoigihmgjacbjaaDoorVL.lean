/- A season and a span among the arguments, opened. No condition. -/
import Derived.Test.YtoigihmgjacbjaaDoorVK
set_option linter.unusedSimpArgs false
namespace Go.Proofs.YtoigihmgjacbjaaDoor
open Go.ChangeShapes Go.WideShapes Go.ChangeAt Go.RowKit Go.Deep
theorem cells_season : Tryd.prog.cellsOf 32 = 4 := by kernel_rfl
section
variable {H : Type} {enc : TypeId × Value → H} {W : World} {base : Nat} {sp : Nat → Bool} {held : Bool}
set_option maxRecDepth 100000 in
theorem open_sea' {n : Nat} {cs : List Value} {x : DataW H × List MemPlace} (h : DataW.trod enc Tryd.prog W base sp held n 32 cs = some x) : ∃ a b c d : Int, cs = [.int .i64 a, .int .i64 b, .int .i64 c, .int .i64 d] := by
  obtain ⟨xs, n', _, hx, hcl, hlen, hf⟩ := DataW.trod_struct Tryd.underlying32 h
  rw [cells_season] at hcl
  match cs, xs, hcl, hlen with
  | [c0, c1, c2, c3], [y0, y1, y2], _, _ =>
    have h0 := trod_at hf 0 27 0 2 rfl cells_span
    have h1 := trod_at hf 1 3 2 1 rfl cells_int
    have h2 := trod_at hf 2 3 3 1 rfl cells_int
    simp only [List.drop, List.take] at h0 h1 h2
    obtain ⟨p, q, e0, _⟩ := open_span h0
    obtain ⟨i1, e1, _, _⟩ := DataW.trod_int Tryd.underlying3 h1
    obtain ⟨i2, e2, _, _⟩ := DataW.trod_int Tryd.underlying3 h2
    simp only [List.cons.injEq, and_true] at e0 e1 e2
    obtain ⟨rfl, rfl⟩ := e0
    exact ⟨p, q, i1, i2, by rw [e1, e2]⟩
set_option maxRecDepth 100000 in
theorem open_sea {v : Value} {d : DataW H} {ps : List MemPlace} {b0 : Nat} (hv : Value.okWide Tryd.prog W .any b0 32 v) (h : DataW.Trod enc Tryd.prog W base sp held 32 v d ps) : ∃ x : Sea, v = .agg #[.int .i64 x.t.lo, .int .i64 x.t.hi, .int .i64 x.g, .int .i64 x.n] := by
  obtain ⟨fuel, hf⟩ := h
  obtain ⟨cs, rfl, hsz⟩ := okWide_struct Tryd.underlying32 hv
  obtain ⟨a, b, c, d, hp⟩ := open_sea' hf
  obtain ⟨l⟩ := cs
  have : l = [.int .i64 a, .int .i64 b, .int .i64 c, .int .i64 d] := by simpa [Value.cells] using hp
  subst this
  exact ⟨⟨⟨a, b⟩, c, d⟩, rfl⟩
set_option maxRecDepth 100000 in
theorem open_spn {v : Value} {d : DataW H} {ps : List MemPlace} {b0 : Nat} (hv : Value.okWide Tryd.prog W .any b0 27 v) (h : DataW.Trod enc Tryd.prog W base sp held 27 v d ps) : ∃ x : Spn, v = .agg #[.int .i64 x.lo, .int .i64 x.hi] := by
  obtain ⟨fuel, hf⟩ := h
  obtain ⟨cs, rfl, hsz⟩ := okWide_struct Tryd.underlying27 hv
  obtain ⟨a, b, hp, _⟩ := open_span hf
  obtain ⟨l⟩ := cs
  have : l = [.int .i64 a, .int .i64 b] := by simpa [Value.cells] using hp
  subst this
  exact ⟨⟨a, b⟩, rfl⟩
end
end Go.Proofs.YtoigihmgjacbjaaDoor
