/- A store among the arguments, opened: whatever reads as data of type api.Store is a store in memory. -/
import Derived.Test.YtmaehiomljnkgaaGA
import Derived.Test.YtmaehiomljnkgaaFJ
namespace Go.Proofs.Ytmaehiomljnkgaa
open Go.ChangeShapes Go.WideShapes Go.ChangeAt Go.RowKit Go.Deep

theorem cells_portion : Try.prog.cellsOf 78 = 2 := by kernel_rfl
theorem cells_heap : Try.prog.cellsOf 57 = 7 := by kernel_rfl
theorem cells_stage : Try.prog.cellsOf 55 = 1 := by kernel_rfl
theorem cells_portions : Try.prog.cellsOf 27 = 1 := by kernel_rfl
theorem cells_heaps : Try.prog.cellsOf 26 = 1 := by kernel_rfl
theorem cells_ints : Try.prog.cellsOf 25 = 1 := by kernel_rfl
theorem cells_store : Try.prog.cellsOf 29 = 6 := by kernel_rfl
theorem cellTypes_store : Try.prog.cellTypes Try.prog.depth 29 = some [3, 25, 25, 26, 27, 27] := by kernel_rfl

section
variable {H : Type} {enc : TypeId × Value → H} {W : World} {base : Nat} {sp : Nat → Bool} {held : Bool}

set_option maxRecDepth 100000 in
theorem open_portion {n : Nat} {cs : List Value} {x : DataW H × List MemPlace} (h : DataW.trod enc Try.prog W base sp held n 78 cs = some x) : ∃ p : Prt, cs = [.int .i64 p.plot, .int .i64 p.loads] := by
  obtain ⟨xs, n', rfl, _, hcl, hlen, hf⟩ := DataW.trod_struct Try.underlying78 h
  rw [cells_portion] at hcl
  match cs, xs, hcl, hlen with
  | [a, b], [y0, y1], _, _ =>
    have h0 := trod_at hf 0 3 0 1 rfl cells_int
    have h1 := trod_at hf 1 3 1 1 rfl cells_int
    simp only [List.drop, List.take] at h0 h1
    obtain ⟨p, e0, _, _⟩ := DataW.trod_int Try.underlying3 h0
    obtain ⟨q, e1, _, _⟩ := DataW.trod_int Try.underlying3 h1
    simp only [List.cons.injEq, and_true] at e0 e1
    exact ⟨⟨p, q⟩, by rw [e0, e1]⟩

set_option maxRecDepth 100000 in
theorem open_portions {n : Nat} {v : Value} {x : DataW H × List MemPlace} (h : DataW.trod enc Try.prog W base sp held n 27 [v] = some x) : ∃ a c l, v = .slice a (l : List Prt).length c ∧ IsPrts W a c l := by
  rcases open_slice Try.underlying27 h with ⟨hcs, _⟩ | ⟨a, len, cap, m, n', D, Pl, hcs, hb, hl, hm, hmm, _, hx⟩
  · simp only [List.cons.injEq, and_true] at hcs
    subst hcs
    exact ⟨none, 0, [], rfl, .inl rfl⟩
  · simp only [List.cons.injEq, and_true] at hcs
    subst hcs
    have hlm : len ≤ m := by rw [hmm]; split <;> omega
    obtain ⟨l, hll, hp⟩ := list_of (p := fun i (p : Prt) => W.cell? (a.add (i * 2)) = some (.int .i64 p.plot) ∧ W.cell? (a.add (i * 2 + 1)) = some (.int .i64 p.loads)) (n := len) fun i hi => by
      obtain ⟨cs', h1, h2⟩ := hx i (by omega)
      rw [cells_portion] at h1
      obtain ⟨_, _, hcell⟩ := World.cells?_some h1
      obtain ⟨p, rfl⟩ := open_portion h2
      have c0 := hcell 0 (by omega)
      have c1 := hcell 1 (by omega)
      rw [add_add] at c0 c1
      exact ⟨p, c0, c1⟩
    rcases Nat.eq_zero_or_pos len with h0 | h0
    · subst h0
      have : l = [] := List.eq_nil_of_length_eq_zero hll
      subst this
      exact ⟨some a, cap, [], rfl, .inl rfl⟩
    · obtain ⟨b, off, spot⟩ := a
      have hq : l[0]? = some l[0] := List.getElem?_eq_getElem (by omega)
      have hc0 := (hp 0 _ hq).1
      have hspot : spot = none := by simpa [Addr.add] using World.cell?_spot hc0
      subst hspot
      subst hll
      unfold maxLen at hm
      refine ⟨_, cap, l, rfl, .inr ⟨b, off, rfl, by simpa [Addr.add] using World.block_lt_of_cell? _ _ hc0, hl, by omega, fun j p hj => ?_⟩⟩
      have := hp j p hj
      rw [add_plain, add_plain] at this
      exact this

set_option maxRecDepth 100000 in
theorem open_ints {n : Nat} {v : Value} {x : DataW H × List MemPlace} (h : DataW.trod enc Try.prog W base sp held n 25 [v] = some x) : ∃ a c l, v = .slice a (l : List Int).length c ∧ IsNums W a c l := by
  rcases open_slice Try.underlying25 h with ⟨hcs, _⟩ | ⟨a, len, cap, m, n', D, Pl, hcs, hb, hl, hm, hmm, _, hx⟩
  · simp only [List.cons.injEq, and_true] at hcs
    subst hcs
    exact ⟨none, 0, [], rfl, .inl rfl⟩
  · simp only [List.cons.injEq, and_true] at hcs
    subst hcs
    have hlm : len ≤ m := by rw [hmm]; split <;> omega
    obtain ⟨l, hll, hp⟩ := list_of (p := fun i (p : Int) => W.cell? (a.add (i * 1)) = some (.int .i64 p)) (n := len) fun i hi => by
      obtain ⟨cs', h1, h2⟩ := hx i (by omega)
      rw [cells_int] at h1
      obtain ⟨_, _, hcell⟩ := World.cells?_some h1
      obtain ⟨p, rfl, _, _⟩ := DataW.trod_int Try.underlying3 h2
      have c0 := hcell 0 (by omega)
      rw [add_add] at c0
      exact ⟨p, c0⟩
    rcases Nat.eq_zero_or_pos len with h0 | h0
    · subst h0
      have : l = [] := List.eq_nil_of_length_eq_zero hll
      subst this
      exact ⟨some a, cap, [], rfl, .inl rfl⟩
    · obtain ⟨b, off, spot⟩ := a
      have hq : l[0]? = some l[0] := List.getElem?_eq_getElem (by omega)
      have hc0 := hp 0 _ hq
      have hspot : spot = none := by simpa [Addr.add] using World.cell?_spot hc0
      subst hspot
      subst hll
      unfold maxLen at hm
      refine ⟨_, cap, l, rfl, .inr ⟨b, off, rfl, by simpa [Addr.add] using World.block_lt_of_cell? _ _ hc0, hl, by omega, fun j p hj => ?_⟩⟩
      have := hp j p hj
      rw [add_plain] at this
      exact this

set_option maxRecDepth 100000 in
theorem open_heap {n : Nat} {cs : List Value} {x : DataW H × List MemPlace} (h : DataW.trod enc Try.prog W base sp held n 57 cs = some x) : ∃ F : Hep, cs = (hepC F).toList ∧ IsPrts W F.pa F.pc F.parts ∧ F.name.size ≤ maxLen := by
  obtain ⟨xs, n', rfl, _, hcl, hlen, hf⟩ := DataW.trod_struct Try.underlying57 h
  rw [cells_heap] at hcl
  match cs, xs, hcl, hlen with
  | [c0, c1, c2, c3, c4, c5, c6], [y0, y1, y2, y3, y4, y5], _, _ =>
    have h0 := trod_at hf 0 9 0 1 rfl cells_name
    have h1 := trod_at hf 1 52 1 1 rfl cells_crop
    have h2 := trod_at hf 2 55 2 1 rfl cells_stage
    have h3 := trod_at hf 3 27 3 1 rfl cells_portions
    have h4 := trod_at hf 4 3 4 1 rfl cells_int
    have h5 := trod_at hf 5 45 5 2 rfl cells_span
    simp only [List.drop, List.take] at h0 h1 h2 h3 h4 h5
    obtain ⟨s, e0, _, hs⟩ := DataW.trod_string Try.underlying9 h0
    obtain ⟨i1, e1, _, _⟩ := DataW.trod_int Try.underlying52 h1
    obtain ⟨i2, e2, _, _⟩ := DataW.trod_int Try.underlying55 h2
    obtain ⟨a, c, l, e3, hp⟩ := open_portions h3
    obtain ⟨i4, e4, _, _⟩ := DataW.trod_int Try.underlying3 h4
    obtain ⟨a5, b5, e5⟩ := open_span h5
    simp only [List.cons.injEq, and_true] at e0 e1 e2 e4 e5
    subst e3
    exact ⟨⟨s, i1, i2, a, c, l, i4, a5, b5⟩, by simp [e0, e1, e2, e4, e5.1, e5.2], hp, hs⟩

set_option maxRecDepth 100000 in
theorem open_heaps {n b0 : Nat} {v : Value} {x : DataW H × List MemPlace} (hv : Cell.okWide Try.prog W .any b0 26 v) (h : DataW.trod enc Try.prog W base sp held n 26 [v] = some x) :
    ∃ a c l, v = .slice a (l : List Hep).length c ∧ IsHeps W a c l := by
  rcases open_slice Try.underlying26 h with ⟨hcs, _⟩ | ⟨a, len, cap, m, n', D, Pl, hcs, hb, hl, hm, hmm, _, hx⟩
  · simp only [List.cons.injEq, and_true] at hcs
    subst hcs
    exact ⟨none, 0, [], rfl, .inl rfl⟩
  · simp only [List.cons.injEq, and_true] at hcs
    subst hcs
    obtain ⟨hs, hblk⟩ := slice_place Try.underlying26 hv
    obtain ⟨b, off, spot⟩ := a
    simp only [] at hs hblk
    subst hs
    have hlm : len ≤ m := by rw [hmm]; split <;> omega
    obtain ⟨l, hll, hp⟩ := list_of (p := fun i (F : Hep) => HepAt W b (off + i * 7) F) (n := len) fun i hi => by
      obtain ⟨cs', h1, h2⟩ := hx i (by omega)
      rw [cells_heap] at h1
      obtain ⟨_, _, hcell⟩ := World.cells?_some h1
      obtain ⟨F, rfl, hF, hnm⟩ := open_heap h2
      have c : ∀ k, k < 7 → W.cell? ⟨b, off + i * 7 + k, none⟩ = ((hepC F).toList)[k]? := fun k hk => by have := hcell k hk; rw [add_add, add_plain, ← Nat.add_assoc] at this; exact this
      exact ⟨F, ⟨c 0 (by omega), c 1 (by omega), c 2 (by omega), c 3 (by omega), c 4 (by omega), c 5 (by omega), c 6 (by omega)⟩, hF, hnm⟩
    subst hll
    unfold maxLen at hm
    exact ⟨_, cap, l, rfl, .inr ⟨b, off, rfl, hblk, hl, by omega, hp⟩⟩

set_option maxRecDepth 100000 in
/-- **An argument of type api.Store is a store in memory.** -/
theorem open_store {b0 : Nat} {v : Value} {d : DataW H} {ps : List MemPlace} (hv : Value.okWide Try.prog W .any b0 29 v) (h : DataW.Trod enc Try.prog W base sp held 29 v d ps) :
    ∃ S : Sto, v = .agg #[.int .i64 S.year, .slice S.la S.last.length S.lc, .slice S.ga S.given.length S.gc, .slice S.ha S.heaps.length S.hc, .slice S.ua S.used.length S.uc, .slice S.wa S.waste.length S.wc] ∧ IsStore W S := by
  obtain ⟨fuel, hf⟩ := h
  unfold Value.okWide at hv
  rw [Try.underlying29] at hv
  obtain ⟨cs, rfl, hsz, ts, hts, _, hall⟩ := hv
  rw [cells_store] at hsz
  rw [cellTypes_store] at hts
  obtain rfl := Option.some.inj hts
  obtain ⟨l⟩ := cs
  match l, hsz with
  | [v0, v1, v2, v3, v4, v5], _ =>
    obtain ⟨u3, hu3, k3⟩ := hall 3 v3 rfl
    obtain rfl : 26 = u3 := by simpa using hu3
    obtain ⟨xs, n', _, _, hcl, hlen, hg⟩ := DataW.trod_struct Try.underlying29 hf
    match xs, hlen with
    | [y0, y1, y2, y3, y4, y5], _ =>
      have h0 := trod_at hg 0 3 0 1 rfl cells_int
      have h1 := trod_at hg 1 25 1 1 rfl cells_ints
      have h2 := trod_at hg 2 25 2 1 rfl cells_ints
      have h3 := trod_at hg 3 26 3 1 rfl cells_heaps
      have h4 := trod_at hg 4 27 4 1 rfl cells_portions
      have h5 := trod_at hg 5 27 5 1 rfl cells_portions
      simp only [Value.cells, List.drop, List.take] at h0 h1 h2 h3 h4 h5
      obtain ⟨yr, e0, _, _⟩ := DataW.trod_int Try.underlying3 h0
      obtain ⟨a1, c1, l1, rfl, r1⟩ := open_ints h1
      obtain ⟨a2, c2, l2, rfl, r2⟩ := open_ints h2
      obtain ⟨a3, c3, l3, rfl, r3⟩ := open_heaps k3 h3
      obtain ⟨a4, c4, l4, rfl, r4⟩ := open_portions h4
      obtain ⟨a5, c5, l5, rfl, r5⟩ := open_portions h5
      simp only [List.cons.injEq, and_true] at e0
      subst e0
      exact ⟨⟨yr, a1, c1, l1, a2, c2, l2, a3, c3, l3, a4, c4, l4, a5, c5, l5⟩, rfl, r1, r2, r3, r4, r5⟩
end
end Go.Proofs.Ytmaehiomljnkgaa
