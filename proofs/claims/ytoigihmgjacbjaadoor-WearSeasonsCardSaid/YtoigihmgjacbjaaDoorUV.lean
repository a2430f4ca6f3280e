/- A span that comes in, opened. No condition. -/
import Derived.Test.YtoigihmgjacbjaaDoorVB
namespace Go.Proofs.YtoigihmgjacbjaaDoor
open Go.ChangeShapes Go.WideShapes Go.ChangeAt Go.RowKit Go.Deep

section
variable {H : Type} {enc : TypeId × Value → H} {W : World} {base : Nat} {sp : Nat → Bool} {held : Bool}
set_option maxRecDepth 100000 in
theorem open_spn' {n : Nat} {cs : List Value} {x : DataW H × List MemPlace} (h : DataW.trod enc Tryd.prog W base sp held n 27 cs = some x) : ∃ a b : Int, cs = [.int .i64 a, .int .i64 b] := by
  obtain ⟨xs, n', _, hx, hcl, hlen, hf⟩ := DataW.trod_struct Tryd.underlying27 h
  rw [cells_span] at hcl
  match cs, xs, hcl, hlen with
  | [a, b], [y0, y1], _, _ =>
    have h0 := trod_at hf 0 3 0 1 rfl cells_int
    have h1 := trod_at hf 1 3 1 1 rfl cells_int
    simp only [List.drop, List.take] at h0 h1
    obtain ⟨p, e0, f0, _⟩ := DataW.trod_int Tryd.underlying3 h0
    obtain ⟨q, e1, f1, _⟩ := DataW.trod_int Tryd.underlying3 h1
    simp only [List.cons.injEq, and_true] at e0 e1
    exact ⟨p, q, by rw [e0, e1]⟩
set_option maxRecDepth 100000 in
theorem open_spn {v : Value} {d : DataW H} {ps : List MemPlace} {b0 : Nat} (hv : Value.okWide Tryd.prog W .any b0 27 v) (h : DataW.Trod enc Tryd.prog W base sp held 27 v d ps) : ∃ p : Spn, v = .agg #[.int .i64 p.lo, .int .i64 p.hi] := by
  obtain ⟨fuel, hf⟩ := h
  obtain ⟨cs, rfl, hsz⟩ := okWide_struct Tryd.underlying27 hv
  obtain ⟨a, b, hp⟩ := open_spn' hf
  obtain ⟨l⟩ := cs
  have : l = [.int .i64 a, .int .i64 b] := by simpa [Value.cells] using hp
  subst this
  exact ⟨⟨a, b⟩, rfl⟩
end
end Go.Proofs.YtoigihmgjacbjaaDoor
