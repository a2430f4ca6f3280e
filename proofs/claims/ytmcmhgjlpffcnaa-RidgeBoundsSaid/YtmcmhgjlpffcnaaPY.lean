/- A ridge, rods and numbers among the arguments, opened: whatever reads as data of these types is a ridge, rods, a list of numbers in memory. -/
import Derived.Test.YtmcmhgjlpffcnaaPW
import Derived.OpenShut
import Derived.Deep.Slices
import Derived.ProofKit
namespace Go.Proofs.Ytmcmhgjlpffcnaa
open Go.ChangeShapes Go.WideShapes Go.ChangeAt Go.RowKit Go.Deep

theorem cells_name : Try.prog.cellsOf 9 = 1 := by kernel_rfl
theorem cells_int : Try.prog.cellsOf 3 = 1 := by kernel_rfl
theorem cells_piece : Try.prog.cellsOf 54 = 5 := by kernel_rfl
theorem cells_pieces : Try.prog.cellsOf 22 = 1 := by kernel_rfl
theorem cells_ridge : Try.prog.cellsOf 24 = 4 := by kernel_rfl
theorem cells_cut : Try.prog.cellsOf 81 = 2 := by kernel_rfl
theorem cells_cuts : Try.prog.cellsOf 41 = 1 := by kernel_rfl
theorem cells_rods : Try.prog.cellsOf 43 = 3 := by kernel_rfl
theorem cellTypes_ridge : Try.prog.cellTypes Try.prog.depth 24 = some [3, 3, 3, 22] := by kernel_rfl
theorem cellTypes_rods : Try.prog.cellTypes Try.prog.depth 43 = some [3, 3, 41] := by kernel_rfl

section
variable {H : Type} {enc : TypeId × Value → H} {W : World} {base : Nat} {sp : Nat → Bool} {held : Bool}

theorem trod_at {n : Nat} {fs : Array Field} {cs : List Value} {xs : List (DataW H × List MemPlace)}
    (hf : ∀ (i : Nat) (f : Field), fs[i]? = some f → DataW.trod enc Try.prog W base sp held n f.type (List.take (Try.prog.cellsOf f.type) (List.drop f.offset cs)) = xs[i]?)
    (i ty off k : Nat) (hi : (fs[i]?).map (fun f => (f.type, f.offset)) = some (ty, off)) (hc : Try.prog.cellsOf ty = k) : DataW.trod enc Try.prog W base sp held n ty (List.take k (List.drop off cs)) = xs[i]? := by
  cases h : fs[i]? with
  | none => rw [h] at hi; cases hi
  | some f =>
    rw [h] at hi
    simp only [Option.map_some, Option.some.injEq, Prod.mk.injEq] at hi
    obtain ⟨rfl, rfl⟩ := hi
    rw [← hc]
    exact hf i f h

theorem list_of {α : Type} {n : Nat} {p : Nat → α → Prop} (h : ∀ i, i < n → ∃ x, p i x) : ∃ l : List α, l.length = n ∧ ∀ j x, l[j]? = some x → p j x := by
  induction n with
  | zero => exact ⟨[], rfl, fun j x hx => by simp at hx⟩
  | succ n ih =>
    obtain ⟨l, hl, hp⟩ := ih fun i hi => h i (by omega)
    obtain ⟨x, hx⟩ := h n (by omega)
    refine ⟨l ++ [x], by simp [hl], fun j y hy => ?_⟩
    by_cases hj : j < n
    · rw [List.getElem?_append_left (by omega)] at hy
      exact hp j y hy
    · by_cases hjn : j = n
      · subst hjn
        rw [← hl, List.getElem?_append_right (Nat.le_refl _)] at hy
        obtain rfl : x = y := by simpa using hy
        exact hx
      · rw [List.getElem?_eq_none (by simp; omega)] at hy
        cases hy

set_option maxRecDepth 100000 in
theorem open_piece {n : Nat} {cs : List Value} {x : DataW H × List MemPlace} (h : DataW.trod enc Try.prog W base sp held n 54 cs = some x) : ∃ p : Pce, cs = (pceC p).toList ∧ p.name.size ≤ maxLen := by
  obtain ⟨xs, n', rfl, _, hcl, hlen, hf⟩ := DataW.trod_struct Try.underlying54 h
  rw [cells_piece] at hcl
  match cs, xs, hcl, hlen with
  | [c0, c1, c2, c3, c4], [y0, y1, y2, y3, y4], _, _ =>
    have h0 := trod_at hf 0 9 0 1 rfl cells_name
    have h1 := trod_at hf 1 3 1 1 rfl cells_int
    have h2 := trod_at hf 2 3 2 1 rfl cells_int
    have h3 := trod_at hf 3 3 3 1 rfl cells_int
    have h4 := trod_at hf 4 3 4 1 rfl cells_int
    simp only [List.drop, List.take] at h0 h1 h2 h3 h4
    obtain ⟨s, e0, _, hs⟩ := DataW.trod_string Try.underlying9 h0
    obtain ⟨i1, e1, _, _⟩ := DataW.trod_int Try.underlying3 h1
    obtain ⟨i2, e2, _, _⟩ := DataW.trod_int Try.underlying3 h2
    obtain ⟨i3, e3, _, _⟩ := DataW.trod_int Try.underlying3 h3
    obtain ⟨i4, e4, _, _⟩ := DataW.trod_int Try.underlying3 h4
    simp only [List.cons.injEq, and_true] at e0 e1 e2 e3 e4
    exact ⟨⟨s, i1, i2, i3, i4⟩, by simp [e0, e1, e2, e3, e4], hs⟩

set_option maxRecDepth 100000 in
theorem open_pieces {n : Nat} {v : Value} {x : DataW H × List MemPlace} (h : DataW.trod enc Try.prog W base sp held n 22 [v] = some x) : ∃ a c l, v = .slice a (l : List Pce).length c ∧ IsPcs W a c l ∧ ∀ x ∈ l, x.name.size ≤ maxLen := by
  rcases open_slice Try.underlying22 h with ⟨hcs, _⟩ | ⟨a, len, cap, m, n', D, Pl, hcs, hb, hl, hm, hmm, _, hx⟩
  · simp only [List.cons.injEq, and_true] at hcs
    subst hcs
    exact ⟨none, 0, [], rfl, .inl rfl, by simp⟩
  · simp only [List.cons.injEq, and_true] at hcs
    subst hcs
    have hlm : len ≤ m := by rw [hmm]; split <;> omega
    obtain ⟨l, hll, hp⟩ := list_of (p := fun i (p : Pce) => (∀ k, k < 5 → W.cell? (a.add (i * 5 + k)) = ((pceC p).toList)[k]?) ∧ p.name.size ≤ maxLen) (n := len) fun i hi => by
      obtain ⟨cs', h1, h2⟩ := hx i (by omega)
      rw [cells_piece] at h1
      obtain ⟨_, _, hcell⟩ := World.cells?_some h1
      obtain ⟨p, rfl, hn⟩ := open_piece h2
      exact ⟨p, fun k hk => by have := hcell k hk; rw [add_add] at this; exact this, hn⟩
    have hnm : ∀ x ∈ l, x.name.size ≤ maxLen := fun x hx => by
      obtain ⟨j, hj⟩ := List.getElem?_of_mem hx
      exact (hp j x hj).2
    rcases Nat.eq_zero_or_pos len with h0 | h0
    · subst h0
      have : l = [] := List.eq_nil_of_length_eq_zero hll
      subst this
      exact ⟨some a, cap, [], rfl, .inl rfl, hnm⟩
    · obtain ⟨b, off, spot⟩ := a
      have hq : l[0]? = some l[0] := List.getElem?_eq_getElem (by omega)
      have hc0 : W.cell? (Addr.add ⟨b, off, spot⟩ (0 * 5 + 0)) = some (.string l[0].name) := (hp 0 _ hq).1 0 (by omega)
      have hspot : spot = none := by simpa [Addr.add] using World.cell?_spot hc0
      subst hspot
      subst hll
      unfold maxLen at hm
      refine ⟨_, cap, l, rfl, .inr ⟨b, off, rfl, by simpa [Addr.add] using World.block_lt_of_cell? _ _ hc0, hl, by omega, fun j p hj => ?_⟩, hnm⟩
      have c : ∀ k, k < 5 → W.cell? ⟨b, off + j * 5 + k, none⟩ = ((pceC p).toList)[k]? := fun k hk => by have := (hp j p hj).1 k hk; rw [add_plain, ← Nat.add_assoc] at this; exact this
      exact ⟨c 0 (by omega), c 1 (by omega), c 2 (by omega), c 3 (by omega), c 4 (by omega)⟩

set_option maxRecDepth 100000 in
/-- **An argument of type api.Ridge is a ridge in memory.** -/
theorem open_ridge {b0 : Nat} {v : Value} {d : DataW H} {ps : List MemPlace} (hv : Value.okWide Try.prog W .any b0 24 v) (h : DataW.Trod enc Try.prog W base sp held 24 v d ps) :
    ∃ R : Rdg, v = .agg #[.int .i64 R.len, .int .i64 R.st, .int .i64 R.en, .slice R.pa R.ps.length R.pc] ∧ IsRdg W R := by
  obtain ⟨fuel, hf⟩ := h
  unfold Value.okWide at hv
  rw [Try.underlying24] at hv
  obtain ⟨cs, rfl, hsz, ts, hts, _, hall⟩ := hv
  rw [cells_ridge] at hsz
  obtain ⟨l⟩ := cs
  match l, hsz with
  | [v0, v1, v2, v3], _ =>
    obtain ⟨xs, n', _, _, hcl, hlen, hg⟩ := DataW.trod_struct Try.underlying24 hf
    match xs, hlen with
    | [y0, y1, y2, y3], _ =>
      have h0 := trod_at hg 0 3 0 1 rfl cells_int
      have h1 := trod_at hg 1 3 1 1 rfl cells_int
      have h2 := trod_at hg 2 3 2 1 rfl cells_int
      have h3 := trod_at hg 3 22 3 1 rfl cells_pieces
      simp only [Value.cells, List.drop, List.take] at h0 h1 h2 h3
      obtain ⟨i0, e0, _, _⟩ := DataW.trod_int Try.underlying3 h0
      obtain ⟨i1, e1, _, _⟩ := DataW.trod_int Try.underlying3 h1
      obtain ⟨i2, e2, _, _⟩ := DataW.trod_int Try.underlying3 h2
      obtain ⟨a3, c3, l3, rfl, r3, n3⟩ := open_pieces h3
      simp only [List.cons.injEq, and_true] at e0 e1 e2
      subst e0
      subst e1
      subst e2
      exact ⟨⟨i0, i1, i2, a3, c3, l3⟩, rfl, r3, n3⟩
end
end Go.Proofs.Ytmcmhgjlpffcnaa
