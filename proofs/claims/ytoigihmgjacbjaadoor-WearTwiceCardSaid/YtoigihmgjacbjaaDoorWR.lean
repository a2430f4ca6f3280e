/- Arguments of the wear laws opened (climates, faces); what the package's variable reads as. -/
import Derived.Test.YtoigihmgjacbjaaDoorWQ
import Derived.Test.YtoigihmgjacbjaaDoorRows
import Derived.OpenShut
import Derived.Deep.Slices
import Derived.ProofKit
import Derived.LaidMore
import Derived.Stop.Joined
namespace Go.Proofs.YtoigihmgjacbjaaDoor
open Go.ChangeShapes Go.WideShapes Go.ChangeAt Go.RowKit Go.Deep

theorem cells_int : Tryd.prog.cellsOf 3 = 1 := by kernel_rfl
theorem cells_span : Tryd.prog.cellsOf 27 = 2 := by kernel_rfl
theorem cells_climate : Tryd.prog.cellsOf 69 = 2 := by kernel_rfl
section
variable {H : Type} {enc : TypeId × Value → H} {W : World} {base : Nat} {sp : Nat → Bool} {held : Bool}

theorem trod_at {n : Nat} {fs : Array Field} {cs : List Value} {xs : List (DataW H × List MemPlace)}
    (hf : ∀ (i : Nat) (f : Field), fs[i]? = some f → DataW.trod enc Tryd.prog W base sp held n f.type (List.take (Tryd.prog.cellsOf f.type) (List.drop f.offset cs)) = xs[i]?)
    (i ty off k : Nat) (hi : (fs[i]?).map (fun f => (f.type, f.offset)) = some (ty, off)) (hc : Tryd.prog.cellsOf ty = k) : DataW.trod enc Tryd.prog W base sp held n ty (List.take k (List.drop off cs)) = xs[i]? := by
  cases h : fs[i]? with
  | none => rw [h] at hi; cases hi
  | some f =>
    rw [h] at hi
    simp only [Option.map_some, Option.some.injEq, Prod.mk.injEq] at hi
    obtain ⟨rfl, rfl⟩ := hi
    rw [← hc]
    exact hf i f h

set_option maxRecDepth 100000 in
theorem open_span {n : Nat} {cs : List Value} {x : DataW H × List MemPlace} (h : DataW.trod enc Tryd.prog W base sp held n 27 cs = some x) : ∃ a b : Int, cs = [.int .i64 a, .int .i64 b] ∧ x.1 = .agg [.lit (.int .i64 a), .lit (.int .i64 b)] := by
  obtain ⟨xs, n', _, hx, hcl, hlen, hf⟩ := DataW.trod_struct Tryd.underlying27 h
  rw [cells_span] at hcl
  match cs, xs, hcl, hlen with
  | [a, b], [y0, y1], _, _ =>
    have h0 := trod_at hf 0 3 0 1 rfl cells_int
    have h1 := trod_at hf 1 3 1 1 rfl cells_int
    simp only [List.drop, List.take] at h0 h1
    obtain ⟨p, e0, f0, _⟩ := DataW.trod_int Tryd.underlying3 h0
    obtain ⟨q, e1, f1, _⟩ := DataW.trod_int Tryd.underlying3 h1
    simp only [List.cons.injEq, and_true] at e0 e1
    exact ⟨p, q, by rw [e0, e1], by rw [hx, f0, f1]; rfl⟩
set_option maxRecDepth 100000 in
theorem open_climate' {n : Nat} {cs : List Value} {x : DataW H × List MemPlace} (h : DataW.trod enc Tryd.prog W base sp held n 69 cs = some x) : ∃ a b : Int, cs = [.int .i64 a, .int .i64 b] := by
  obtain ⟨xs, n', _, hx, hcl, hlen, hf⟩ := DataW.trod_struct Tryd.underlying69 h
  rw [cells_climate] at hcl
  match cs, xs, hcl, hlen with
  | [a, b], [y0], _, _ =>
    have h0 := trod_at hf 0 27 0 2 rfl cells_span
    simp only [List.drop, List.take] at h0
    obtain ⟨p, q, e0, _⟩ := open_span h0
    exact ⟨p, q, e0⟩
set_option maxRecDepth 100000 in
theorem open_climate {v : Value} {d : DataW H} {ps : List MemPlace} {b0 : Nat} (hv : Value.okWide Tryd.prog W .any b0 69 v) (h : DataW.Trod enc Tryd.prog W base sp held 69 v d ps) : ∃ p : Spn, v = .agg #[.int .i64 p.lo, .int .i64 p.hi] := by
  obtain ⟨fuel, hf⟩ := h
  obtain ⟨cs, rfl, hsz⟩ := okWide_struct Tryd.underlying69 hv
  obtain ⟨a, b, hp⟩ := open_climate' hf
  obtain ⟨l⟩ := cs
  have : l = [.int .i64 a, .int .i64 b] := by simpa [Value.cells] using hp
  subst this
  exact ⟨⟨a, b⟩, rfl⟩
end

theorem gNothing : Tryd.prog.globalNamed "thatch/wear.nothing" = some 0 := by kernel_rfl
theorem tNothing : (Tryd.prog.globals[0]?).map (·.type) = some 27 := by kernel_rfl
/-- What the condition gives the walks: the variable's two cells. -/
theorem laid_of {W : World} (h : laidMetH Tryd.prog Rows.wearTwiceRow.laid W) : Laid W := by
  rw [MakeChecks.laidMetH_plain _ _ _ (by kernel_rfl)] at h
  obtain ⟨ps, ⟨g0, t0, cs0, f0, p0, q0, hg0, ht0, hv0, hd0, hr⟩, hr2⟩ := h
  obtain rfl := Option.some.inj (gNothing.symm.trans hg0)
  obtain rfl := Option.some.inj (tNothing.symm.trans ht0)
  obtain ⟨a, b, hcs, hx⟩ := open_span hd0
  have hc0 := World.var?_cell hg0 hv0 0
  have hc1 := World.var?_cell hg0 hv0 1
  obtain ⟨l⟩ := cs0
  have : l = [.int .i64 a, .int .i64 b] := by simpa using hcs
  subst this
  have hx' : (Rows.laid_thatch_wear_nothing : DataW _) = .agg [.lit (.int .i64 a), .lit (.int .i64 b)] := hx
  simp only [Rows.laid_thatch_wear_nothing, DataW.agg.injEq, List.cons.injEq, DataW.lit.injEq, Lit.int.injEq, and_true, true_and] at hx'
  obtain ⟨rfl, rfl⟩ := hx'
  exact ⟨hc0, hc1, World.block_lt_of_cell? _ _ hc0⟩
/-- The door's own heap meets the condition. -/
theorem door_met (os : Os) (args : Array Value) : laidMetH Tryd.prog Rows.wearTwiceRow.laid ((World.doorLaid Tryd.prog 400 os).forCall (fun _ _ => 0) ⟨#[], args, []⟩).memory :=
  laidMetH_of_parts3 (fuel := 8) (laidMet_of_run' 8 (by kernel_rfl) (by kernel_rfl)) (by kernel_rfl) (by kernel_rfl)
end Go.Proofs.YtoigihmgjacbjaaDoor
