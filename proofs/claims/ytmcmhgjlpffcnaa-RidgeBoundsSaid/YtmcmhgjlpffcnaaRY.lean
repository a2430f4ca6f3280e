/- Rods among the arguments, opened: whatever reads as data of this type is rods in memory. -/
import Derived.Test.YtmcmhgjlpffcnaaPY
namespace Go.Proofs.Ytmcmhgjlpffcnaa
open Go.ChangeShapes Go.WideShapes Go.ChangeAt Go.RowKit Go.Deep

section
variable {H : Type} {enc : TypeId × Value → H} {W : World} {base : Nat} {sp : Nat → Bool} {held : Bool}

set_option maxRecDepth 100000 in
theorem open_cut {n : Nat} {cs : List Value} {x : DataW H × List MemPlace} (h : DataW.trod enc Try.prog W base sp held n 81 cs = some x) : ∃ p : Cut, cs = [.int .i64 p.ln, .int .i64 p.mn] := by
  obtain ⟨xs, n', rfl, _, hcl, hlen, hf⟩ := DataW.trod_struct Try.underlying81 h
  rw [cells_cut] at hcl
  match cs, xs, hcl, hlen with
  | [c0, c1], [y0, y1], _, _ =>
    have h0 := trod_at hf 0 3 0 1 rfl cells_int
    have h1 := trod_at hf 1 3 1 1 rfl cells_int
    simp only [List.drop, List.take] at h0 h1
    obtain ⟨i0, e0, _, _⟩ := DataW.trod_int Try.underlying3 h0
    obtain ⟨i1, e1, _, _⟩ := DataW.trod_int Try.underlying3 h1
    simp only [List.cons.injEq, and_true] at e0 e1
    exact ⟨⟨i0, i1⟩, by simp [e0, e1]⟩

set_option maxRecDepth 100000 in
theorem open_cuts {n : Nat} {v : Value} {x : DataW H × List MemPlace} (h : DataW.trod enc Try.prog W base sp held n 41 [v] = some x) : ∃ a c l, v = .slice a (l : List Cut).length c ∧ IsCts W a c l := by
  rcases open_slice Try.underlying41 h with ⟨hcs, _⟩ | ⟨a, len, cap, m, n', D, Pl, hcs, hb, hl, hm, hmm, _, hx⟩
  · simp only [List.cons.injEq, and_true] at hcs
    subst hcs
    exact ⟨none, 0, [], rfl, .inl rfl⟩
  · simp only [List.cons.injEq, and_true] at hcs
    subst hcs
    have hlm : len ≤ m := by rw [hmm]; split <;> omega
    obtain ⟨l, hll, hp⟩ := list_of (p := fun i (p : Cut) => ∀ k, k < 2 → W.cell? (a.add (i * 2 + k)) = ([.int .i64 p.ln, .int .i64 p.mn] : List Value)[k]?) (n := len) fun i hi => by
      obtain ⟨cs', h1, h2⟩ := hx i (by omega)
      rw [cells_cut] at h1
      obtain ⟨_, _, hcell⟩ := World.cells?_some h1
      obtain ⟨p, rfl⟩ := open_cut h2
      exact ⟨p, fun k hk => by have := hcell k hk; rw [add_add] at this; exact this⟩
    rcases Nat.eq_zero_or_pos len with h0 | h0
    · subst h0
      have : l = [] := List.eq_nil_of_length_eq_zero hll
      subst this
      exact ⟨some a, cap, [], rfl, .inl rfl⟩
    · obtain ⟨b, off, spot⟩ := a
      have hq : l[0]? = some l[0] := List.getElem?_eq_getElem (by omega)
      have hc0 : W.cell? (Addr.add ⟨b, off, spot⟩ (0 * 2 + 0)) = some (.int .i64 l[0].ln) := hp 0 _ hq 0 (by omega)
      have hspot : spot = none := by simpa [Addr.add] using World.cell?_spot hc0
      subst hspot
      subst hll
      unfold maxLen at hm
      refine ⟨_, cap, l, rfl, .inr ⟨b, off, rfl, by simpa [Addr.add] using World.block_lt_of_cell? _ _ hc0, hl, by omega, fun j p hj => ?_⟩⟩
      have c : ∀ k, k < 2 → W.cell? ⟨b, off + j * 2 + k, none⟩ = ([.int .i64 p.ln, .int .i64 p.mn] : List Value)[k]? := fun k hk => by have := hp j p hj k hk; rw [add_plain, ← Nat.add_assoc] at this; exact this
      exact ⟨c 0 (by omega), c 1 (by omega)⟩

set_option maxRecDepth 100000 in
/-- **An argument of type api.Rods is rods in memory.** -/
theorem open_rods {b0 : Nat} {v : Value} {d : DataW H} {ps : List MemPlace} (hv : Value.okWide Try.prog W .any b0 43 v) (h : DataW.Trod enc Try.prog W base sp held 43 v d ps) :
    ∃ r : Rds, v = .agg #[.int .i64 r.stock, .int .i64 r.kerf, .slice r.ca r.cs.length r.cc] ∧ IsCts W r.ca r.cc r.cs := by
  obtain ⟨fuel, hf⟩ := h
  unfold Value.okWide at hv
  rw [Try.underlying43] at hv
  obtain ⟨cs, rfl, hsz, ts, hts, _, hall⟩ := hv
  rw [cells_rods] at hsz
  obtain ⟨l⟩ := cs
  match l, hsz with
  | [v0, v1, v2], _ =>
    obtain ⟨xs, n', _, _, hcl, hlen, hg⟩ := DataW.trod_struct Try.underlying43 hf
    match xs, hlen with
    | [y0, y1, y2], _ =>
      have h0 := trod_at hg 0 3 0 1 rfl cells_int
      have h1 := trod_at hg 1 3 1 1 rfl cells_int
      have h2 := trod_at hg 2 41 2 1 rfl cells_cuts
      simp only [Value.cells, List.drop, List.take] at h0 h1 h2
      obtain ⟨i0, e0, _, _⟩ := DataW.trod_int Try.underlying3 h0
      obtain ⟨i1, e1, _, _⟩ := DataW.trod_int Try.underlying3 h1
      obtain ⟨a2, c2, l2, rfl, r2⟩ := open_cuts h2
      simp only [List.cons.injEq, and_true] at e0 e1
      subst e0 e1
      exact ⟨⟨i0, i1, a2, c2, l2⟩, rfl, r2⟩
end
end Go.Proofs.Ytmcmhgjlpffcnaa
