/- A reading among the arguments, and a list of readings, opened. No condition. -/
import Derived.Test.YtoigihmgjacbjaaDoorVW
import Derived.Test.YtoigihmgjacbjaaDoorVL
set_option linter.unusedSimpArgs false
namespace Go.Proofs.YtoigihmgjacbjaaDoor
open Go.ChangeShapes Go.WideShapes Go.ChangeAt Go.RowKit Go.Deep
abbrev rdgC (x : Rdg) : Array Value := #[.int .i64 x.at_.x, .int .i64 x.at_.y, .int .i64 x.r, .int .i64 x.n]
theorem cells_reading : Tryd.prog.cellsOf 48 = 4 := by kernel_rfl
section
variable {H : Type} {enc : TypeId × Value → H} {W : World} {base : Nat} {sp : Nat → Bool} {held : Bool}
set_option maxRecDepth 100000 in
theorem open_rdg' {n : Nat} {cs : List Value} {x : DataW H × List MemPlace} (h : DataW.trod enc Tryd.prog W base sp held n 48 cs = some x) : ∃ F : Rdg, cs = (rdgC F).toList := by
  obtain ⟨xs, n', _, hx, hcl, hlen, hf⟩ := DataW.trod_struct Tryd.underlying48 h
  rw [cells_reading] at hcl
  match cs, xs, hcl, hlen with
  | [c0, c1, c2, c3], [y0, y1, y2], _, _ =>
    have h0 := trod_at hf 0 45 0 2 rfl cells_pt
    have h1 := trod_at hf 1 3 2 1 rfl cells_int
    have h2 := trod_at hf 2 3 3 1 rfl cells_int
    simp only [List.drop, List.take] at h0 h1 h2
    obtain ⟨a, b, e0⟩ := open_pt' h0
    obtain ⟨i1, e1, _, _⟩ := DataW.trod_int Tryd.underlying3 h1
    obtain ⟨i2, e2, _, _⟩ := DataW.trod_int Tryd.underlying3 h2
    simp only [List.cons.injEq, and_true] at e0 e1 e2
    exact ⟨⟨⟨a, b⟩, i1, i2⟩, by simp [rdgC, e0.1, e0.2, e1, e2]⟩
set_option maxRecDepth 100000 in
theorem open_rdg {v : Value} {d : DataW H} {ps : List MemPlace} {b0 : Nat} (hv : Value.okWide Tryd.prog W .any b0 48 v) (h : DataW.Trod enc Tryd.prog W base sp held 48 v d ps) : ∃ x : Rdg, v = .agg #[.int .i64 x.at_.x, .int .i64 x.at_.y, .int .i64 x.r, .int .i64 x.n] := by
  obtain ⟨fuel, hf⟩ := h
  obtain ⟨cs, rfl, hsz⟩ := okWide_struct Tryd.underlying48 hv
  obtain ⟨F, hp⟩ := open_rdg' hf
  obtain ⟨l⟩ := cs
  have : l = (rdgC F).toList := by simpa [Value.cells] using hp
  subst this
  exact ⟨F, rfl⟩
end
end Go.Proofs.YtoigihmgjacbjaaDoor
