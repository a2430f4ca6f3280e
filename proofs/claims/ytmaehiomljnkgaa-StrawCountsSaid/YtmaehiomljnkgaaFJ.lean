/- A farm, a need among the arguments, opened: whatever reads as data of type api.Farm is a farm in memory. -/
import Derived.Test.YtmaehiomljnkgaaFB
import Derived.OpenShut
import Derived.Deep.Slices
import Derived.ProofKit
namespace Go.Proofs.Ytmaehiomljnkgaa
open Go.ChangeShapes Go.WideShapes Go.ChangeAt Go.RowKit Go.Deep

theorem cells_name : Try.prog.cellsOf 9 = 1 := by kernel_rfl
theorem cells_int : Try.prog.cellsOf 3 = 1 := by kernel_rfl
theorem cells_crop : Try.prog.cellsOf 52 = 1 := by kernel_rfl
theorem cells_span : Try.prog.cellsOf 45 = 2 := by kernel_rfl
theorem cells_plot : Try.prog.cellsOf 54 = 9 := by kernel_rfl
theorem cells_farm : Try.prog.cellsOf 24 = 2 := by kernel_rfl
theorem cells_plots : Try.prog.cellsOf 22 = 1 := by kernel_rfl
theorem cellTypes_farm : Try.prog.cellTypes Try.prog.depth 24 = some [22, 3] := by kernel_rfl

section
variable {H : Type} {enc : TypeId × Value → H} {W : World} {base : Nat} {sp : Nat → Bool} {held : Bool}

theorem trod_at {n : Nat} {fs : Array Field} {cs : List Value} {xs : List (DataW H × List MemPlace)}
    (hf : ∀ (i : Nat) (f : Field), fs[i]? = some f → DataW.trod enc Try.prog W base sp held n f.type (List.take (Try.prog.cellsOf f.type) (List.drop f.offset cs)) = xs[i]?)
    (i ty off k : Nat) (hi : (fs[i]?).map (fun f => (f.type, f.offset)) = some (ty, off)) (hc : Try.prog.cellsOf ty = k) : DataW.trod enc Try.prog W base sp held n ty (List.take k (List.drop off cs)) = xs[i]? := by
  cases h : fs[i]? with
  | none => rw [h] at hi; cases hi
  | some f =>
    rw [h] at hi
    simp only [Option.map_some, Option.some.injEq, Prod.mk.injEq] at hi
    obtain ⟨rfl, rfl⟩ := hi
    rw [← hc]
    exact hf i f h

set_option maxRecDepth 100000 in
theorem open_span {n : Nat} {cs : List Value} {x : DataW H × List MemPlace} (h : DataW.trod enc Try.prog W base sp held n 45 cs = some x) : ∃ a b : Int, cs = [.int .i64 a, .int .i64 b] := by
  obtain ⟨xs, n', rfl, _, hcl, hlen, hf⟩ := DataW.trod_struct Try.underlying45 h
  rw [cells_span] at hcl
  match cs, xs, hcl, hlen with
  | [a, b], [y0, y1], _, _ =>
    have h0 := trod_at hf 0 3 0 1 rfl cells_int
    have h1 := trod_at hf 1 3 1 1 rfl cells_int
    simp only [List.drop, List.take] at h0 h1
    obtain ⟨p, e0, _, _⟩ := DataW.trod_int Try.underlying3 h0
    obtain ⟨q, e1, _, _⟩ := DataW.trod_int Try.underlying3 h1
    simp only [List.cons.injEq, and_true] at e0 e1
    exact ⟨p, q, by rw [e0, e1]⟩

theorem list_of {α : Type} {n : Nat} {p : Nat → α → Prop} (h : ∀ i, i < n → ∃ x, p i x) : ∃ l : List α, l.length = n ∧ ∀ j x, l[j]? = some x → p j x := by
  induction n with
  | zero => exact ⟨[], rfl, fun j x hx => by simp at hx⟩
  | succ n ih =>
    obtain ⟨l, hl, hp⟩ := ih fun i hi => h i (by omega)
    obtain ⟨x, hx⟩ := h n (by omega)
    refine ⟨l ++ [x], by simp [hl], fun j y hy => ?_⟩
    by_cases hj : j < n
    · rw [List.getElem?_append_left (by omega)] at hy
      exact hp j y hy
    · by_cases hjn : j = n
      · subst hjn
        rw [← hl, List.getElem?_append_right (Nat.le_refl _)] at hy
        obtain rfl : x = y := by simpa using hy
        exact hx
      · rw [List.getElem?_eq_none (by simp; omega)] at hy
        cases hy

set_option maxRecDepth 100000 in
theorem open_plot {n : Nat} {cs : List Value} {x : DataW H × List MemPlace} (h : DataW.trod enc Try.prog W base sp held n 54 cs = some x) : ∃ F : Plt, cs = (pltC F).toList ∧ F.name.size ≤ maxLen := by
  obtain ⟨xs, n', rfl, _, hcl, hlen, hf⟩ := DataW.trod_struct Try.underlying54 h
  rw [cells_plot] at hcl
  match cs, xs, hcl, hlen with
  | [c0, c1, c2, c3, c4, c5, c6, c7, c8], [y0, y1, y2, y3, y4, y5, y6], _, _ =>
    have h0 := trod_at hf 0 9 0 1 rfl cells_name
    have h1 := trod_at hf 1 52 1 1 rfl cells_crop
    have h2 := trod_at hf 2 3 2 1 rfl cells_int
    have h3 := trod_at hf 3 45 3 2 rfl cells_span
    have h4 := trod_at hf 4 3 5 1 rfl cells_int
    have h5 := trod_at hf 5 45 6 2 rfl cells_span
    have h6 := trod_at hf 6 3 8 1 rfl cells_int
    simp only [List.drop, List.take] at h0 h1 h2 h3 h4 h5 h6
    obtain ⟨s, e0, _, hs⟩ := DataW.trod_string Try.underlying9 h0
    obtain ⟨i1, e1, _, _⟩ := DataW.trod_int Try.underlying52 h1
    obtain ⟨i2, e2, _, _⟩ := DataW.trod_int Try.underlying3 h2
    obtain ⟨a3, b3, e3⟩ := open_span h3
    obtain ⟨i4, e4, _, _⟩ := DataW.trod_int Try.underlying3 h4
    obtain ⟨a5, b5, e5⟩ := open_span h5
    obtain ⟨i6, e6, _, _⟩ := DataW.trod_int Try.underlying3 h6
    simp only [List.cons.injEq, and_true] at e0 e1 e2 e3 e4 e5 e6
    exact ⟨⟨s, i1, i2, a3, b3, i4, a5, b5, i6⟩, by simp [e0, e1, e2, e3.1, e3.2, e4, e5.1, e5.2, e6], hs⟩

set_option maxRecDepth 100000 in
/-- Where a slice's address lies. -/
theorem slice_place {t e : TypeId} {a : Addr} {len cap b0 : Nat} (ht : Try.prog.underlying t = some (.slice e)) (h : Cell.okWide Try.prog W .any b0 t (.slice (some a) len cap)) : a.spot = none ∧ a.block < W.heap.size := by
  unfold Cell.okWide Cell.ok at h
  rw [ht] at h
  obtain ⟨_, _, _, h2, row, cells, h3, _⟩ := h
  refine ⟨h2, ?_⟩
  unfold World.shape? at h3
  rcases Nat.lt_or_ge a.block W.heap.size with hlt | hge
  · exact hlt
  · rw [Array.getElem?_eq_none hge] at h3
    cases h3

theorem add_plain' (b off i : Nat) : (⟨b, off, none⟩ : Addr).add i = ⟨b, off + i, none⟩ := by unfold Addr.add; split <;> simp_all

set_option maxRecDepth 100000 in
theorem open_plots {n b0 : Nat} {v : Value} {x : DataW H × List MemPlace} (hv : Cell.okWide Try.prog W .any b0 22 v) (h : DataW.trod enc Try.prog W base sp held n 22 [v] = some x) :
    ∃ a c l, v = .slice a (l : List Plt).length c ∧ IsPlts W v l := by
  rcases open_slice Try.underlying22 h with ⟨hcs, _⟩ | ⟨a, len, cap, m, n', D, Pl, hcs, hb, hl, hm, hmm, _, hx⟩
  · simp only [List.cons.injEq, and_true] at hcs
    subst hcs
    exact ⟨none, 0, [], rfl, .inl ⟨rfl, rfl⟩⟩
  · simp only [List.cons.injEq, and_true] at hcs
    subst hcs
    obtain ⟨hs, hblk⟩ := slice_place Try.underlying22 hv
    obtain ⟨b, off, spot⟩ := a
    simp only [] at hs hblk
    subst hs
    have hlm : len ≤ m := by rw [hmm]; split <;> omega
    obtain ⟨l, hll, hp⟩ := list_of (p := fun i (F : Plt) => PltAt W b (off + i * 9) F ∧ F.name.size ≤ maxLen) (n := len) fun i hi => by
      obtain ⟨cs', h1, h2⟩ := hx i (by omega)
      rw [cells_plot] at h1
      obtain ⟨_, _, hcell⟩ := World.cells?_some h1
      obtain ⟨F, rfl, hF⟩ := open_plot h2
      have c : ∀ k, k < 9 → W.cell? ⟨b, off + i * 9 + k, none⟩ = ((pltC F).toList)[k]? := fun k hk => by have := hcell k hk; rw [add_add, add_plain, ← Nat.add_assoc] at this; exact this
      exact ⟨F, ⟨c 0 (by omega), c 1 (by omega), c 2 (by omega), c 3 (by omega), c 4 (by omega), c 5 (by omega), c 6 (by omega), c 7 (by omega), c 8 (by omega)⟩, hF⟩
    subst hll
    unfold maxLen at hm
    exact ⟨_, cap, l, rfl, .inr ⟨b, off, cap, rfl, hblk, hl, by omega, hp⟩⟩

set_option maxRecDepth 100000 in
/-- **An argument of type api.Farm is a farm in memory.** -/
theorem open_farm {b0 : Nat} {v : Value} {d : DataW H} {ps : List MemPlace} (hv : Value.okWide Try.prog W .any b0 24 v) (h : DataW.Trod enc Try.prog W base sp held 24 v d ps) :
    ∃ R : Frm, v = .agg #[.slice R.pa R.ps.length R.pc, .int .i64 R.dry] ∧ IsFarm W R := by
  obtain ⟨fuel, hf⟩ := h
  unfold Value.okWide at hv
  rw [Try.underlying24] at hv
  obtain ⟨cs, rfl, hsz, ts, hts, _, hall⟩ := hv
  rw [cells_farm] at hsz
  rw [cellTypes_farm] at hts
  obtain rfl := Option.some.inj hts
  obtain ⟨l⟩ := cs
  match l, hsz with
  | [v0, v1], _ =>
    obtain ⟨u0, hu0, k0⟩ := hall 0 v0 rfl
    obtain rfl : 22 = u0 := by simpa using hu0
    obtain ⟨y0, y1, n, _, _, h0, h1⟩ := trod_struct2 Try.underlying24 hf
    simp only [cells_plots, cells_int, Value.cells, List.drop, List.take] at h0 h1
    obtain ⟨a, c, l0, rfl, hF⟩ := open_plots k0 h0
    obtain ⟨dr, e1, _, _⟩ := DataW.trod_int Try.underlying3 h1
    simp only [List.cons.injEq, and_true] at e1
    subst e1
    exact ⟨⟨a, c, l0, dr⟩, rfl, hF⟩

end
end Go.Proofs.Ytmaehiomljnkgaa
