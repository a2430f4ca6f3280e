/- A need, three numbers, among the arguments, opened. -/
import Derived.Test.YtghepojnimlafaaQGS
namespace Go.Proofs.Ytghepojnimlafaa
open Go.ChangeShapes Go.WideShapes Go.ChangeAt Go.RowKit Go.Deep

theorem cells_need : Try.prog.cellsOf 27 = 3 := by kernel_rfl
section
variable {H : Type} {enc : TypeId × Value → H} {W : World} {base : Nat} {sp : Nat → Bool} {held : Bool}

set_option maxRecDepth 100000 in
theorem open_three' {n : Nat} {cs : List Value} {x : DataW H × List MemPlace} (h : DataW.trod enc Try.prog W base sp held n 27 cs = some x) : ∃ a b c : Int, cs = [.int .i64 a, .int .i64 b, .int .i64 c] := by
  obtain ⟨xs, n', rfl, _, hcl, hlen, hf⟩ := DataW.trod_struct Try.underlying27 h
  rw [cells_need] at hcl
  match cs, xs, hcl, hlen with
  | [a, b, c], [y0, y1, y2], _, _ =>
    have h0 := trod_at hf 0 3 0 1 rfl cells_int
    have h1 := trod_at hf 1 3 1 1 rfl cells_int
    have h2 := trod_at hf 2 3 2 1 rfl cells_int
    simp only [List.drop, List.take] at h0 h1 h2
    obtain ⟨p, e0, _, _⟩ := DataW.trod_int Try.underlying3 h0
    obtain ⟨q, e1, _, _⟩ := DataW.trod_int Try.underlying3 h1
    obtain ⟨r, e2, _, _⟩ := DataW.trod_int Try.underlying3 h2
    simp only [List.cons.injEq, and_true] at e0 e1 e2
    exact ⟨p, q, r, by rw [e0, e1, e2]⟩

set_option maxRecDepth 100000 in
theorem open_need {v : Value} {d : DataW H} {ps : List MemPlace} {b0 : Nat} (hv : Value.okWide Try.prog W .any b0 27 v) (h : DataW.Trod enc Try.prog W base sp held 27 v d ps) : ∃ p : Ned, v = .agg #[.int .i64 p.reed, .int .i64 p.straw, .int .i64 p.heather] := by
  obtain ⟨fuel, hf⟩ := h
  obtain ⟨cs, rfl, hsz⟩ := okWide_struct Try.underlying27 hv
  obtain ⟨a, b, c, hp⟩ := open_three' hf
  obtain ⟨l⟩ := cs
  have : l = [.int .i64 a, .int .i64 b, .int .i64 c] := by simpa [Value.cells] using hp
  subst this
  exact ⟨⟨a, b, c⟩, rfl⟩

theorem u16_wf {n : Int} (h : (Lit.int .u16 n).wf = true) : 0 ≤ n ∧ n ≤ 65535 := by
  have e1 : IntKind.u16.min = 0 := by decide
  have e2 : IntKind.u16.max = 65535 := by decide
  simp only [Lit.wf, Bool.and_eq_true, decide_eq_true_eq, e1, e2] at h
  exact h

end
end Go.Proofs.Ytghepojnimlafaa
