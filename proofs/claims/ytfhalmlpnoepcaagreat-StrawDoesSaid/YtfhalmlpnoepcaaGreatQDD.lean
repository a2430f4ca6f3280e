/- A farm, a need among the arguments, opened: whatever reads as data of type api.Farm is a farm in memory. A store among the arguments, opened: whatever reads as data of type api.Store is a store in memory. A chore among the arguments, opened. -/
import Derived.Test.YtfhalmlpnoepcaaGreatFB
import Derived.OpenShut
import Derived.Deep.Slices
import Derived.ProofKit
import Derived.Test.YtfhalmlpnoepcaaGreatGA
import Derived.Test.YtfhalmlpnoepcaaGreatJG
namespace Go.Proofs.YtfhalmlpnoepcaaGreat
section
open Go.ChangeShapes Go.WideShapes Go.ChangeAt Go.RowKit Go.Deep

theorem cells_name : Tryz.prog.cellsOf 9 = 1 := by kernel_rfl
theorem cells_int : Tryz.prog.cellsOf 3 = 1 := by kernel_rfl
theorem cells_crop : Tryz.prog.cellsOf 48 = 1 := by kernel_rfl
theorem cells_span : Tryz.prog.cellsOf 32 = 2 := by kernel_rfl
theorem cells_plot : Tryz.prog.cellsOf 50 = 9 := by kernel_rfl
theorem cells_farm : Tryz.prog.cellsOf 24 = 2 := by kernel_rfl
theorem cells_plots : Tryz.prog.cellsOf 22 = 1 := by kernel_rfl
theorem cellTypes_farm : Tryz.prog.cellTypes Tryz.prog.depth 24 = some [22, 3] := by kernel_rfl

section
variable {H : Type} {enc : TypeId × Value → H} {W : World} {base : Nat} {sp : Nat → Bool} {held : Bool}

theorem trod_at {n : Nat} {fs : Array Field} {cs : List Value} {xs : List (DataW H × List MemPlace)}
    (hf : ∀ (i : Nat) (f : Field), fs[i]? = some f → DataW.trod enc Tryz.prog W base sp held n f.type (List.take (Tryz.prog.cellsOf f.type) (List.drop f.offset cs)) = xs[i]?)
    (i ty off k : Nat) (hi : (fs[i]?).map (fun f => (f.type, f.offset)) = some (ty, off)) (hc : Tryz.prog.cellsOf ty = k) : DataW.trod enc Tryz.prog W base sp held n ty (List.take k (List.drop off cs)) = xs[i]? := by
  cases h : fs[i]? with
  | none => rw [h] at hi; cases hi
  | some f =>
    rw [h] at hi
    simp only [Option.map_some, Option.some.injEq, Prod.mk.injEq] at hi
    obtain ⟨rfl, rfl⟩ := hi
    rw [← hc]
    exact hf i f h

set_option maxRecDepth 100000 in
theorem open_span {n : Nat} {cs : List Value} {x : DataW H × List MemPlace} (h : DataW.trod enc Tryz.prog W base sp held n 32 cs = some x) : ∃ a b : Int, cs = [.int .i64 a, .int .i64 b] := by
  obtain ⟨xs, n', rfl, _, hcl, hlen, hf⟩ := DataW.trod_struct Tryz.underlying32 h
  rw [cells_span] at hcl
  match cs, xs, hcl, hlen with
  | [a, b], [y0, y1], _, _ =>
    have h0 := trod_at hf 0 3 0 1 rfl cells_int
    have h1 := trod_at hf 1 3 1 1 rfl cells_int
    simp only [List.drop, List.take] at h0 h1
    obtain ⟨p, e0, _, _⟩ := DataW.trod_int Tryz.underlying3 h0
    obtain ⟨q, e1, _, _⟩ := DataW.trod_int Tryz.underlying3 h1
    simp only [List.cons.injEq, and_true] at e0 e1
    exact ⟨p, q, by rw [e0, e1]⟩

theorem list_of {α : Type} {n : Nat} {p : Nat → α → Prop} (h : ∀ i, i < n → ∃ x, p i x) : ∃ l : List α, l.length = n ∧ ∀ j x, l[j]? = some x → p j x := by
  induction n with
  | zero => exact ⟨[], rfl, fun j x hx => by simp at hx⟩
  | succ n ih =>
    obtain ⟨l, hl, hp⟩ := ih fun i hi => h i (by omega)
    obtain ⟨x, hx⟩ := h n (by omega)
    refine ⟨l ++ [x], by simp [hl], fun j y hy => ?_⟩
    by_cases hj : j < n
    · rw [List.getElem?_append_left (by omega)] at hy
      exact hp j y hy
    · by_cases hjn : j = n
      · subst hjn
        rw [← hl, List.getElem?_append_right (Nat.le_refl _)] at hy
        obtain rfl : x = y := by simpa using hy
        exact hx
      · rw [List.getElem?_eq_none (by simp; omega)] at hy
        cases hy

set_option maxRecDepth 100000 in
theorem open_plot {n : Nat} {cs : List Value} {x : DataW H × List MemPlace} (h : DataW.trod enc Tryz.prog W base sp held n 50 cs = some x) : ∃ F : Plt, cs = (pltC F).toList ∧ F.name.size ≤ maxLen := by
  obtain ⟨xs, n', rfl, _, hcl, hlen, hf⟩ := DataW.trod_struct Tryz.underlying50 h
  rw [cells_plot] at hcl
  match cs, xs, hcl, hlen with
  | [c0, c1, c2, c3, c4, c5, c6, c7, c8], [y0, y1, y2, y3, y4, y5, y6], _, _ =>
    have h0 := trod_at hf 0 9 0 1 rfl cells_name
    have h1 := trod_at hf 1 48 1 1 rfl cells_crop
    have h2 := trod_at hf 2 3 2 1 rfl cells_int
    have h3 := trod_at hf 3 32 3 2 rfl cells_span
    have h4 := trod_at hf 4 3 5 1 rfl cells_int
    have h5 := trod_at hf 5 32 6 2 rfl cells_span
    have h6 := trod_at hf 6 3 8 1 rfl cells_int
    simp only [List.drop, List.take] at h0 h1 h2 h3 h4 h5 h6
    obtain ⟨s, e0, _, hs⟩ := DataW.trod_string Tryz.underlying9 h0
    obtain ⟨i1, e1, _, _⟩ := DataW.trod_int Tryz.underlying48 h1
    obtain ⟨i2, e2, _, _⟩ := DataW.trod_int Tryz.underlying3 h2
    obtain ⟨a3, b3, e3⟩ := open_span h3
    obtain ⟨i4, e4, _, _⟩ := DataW.trod_int Tryz.underlying3 h4
    obtain ⟨a5, b5, e5⟩ := open_span h5
    obtain ⟨i6, e6, _, _⟩ := DataW.trod_int Tryz.underlying3 h6
    simp only [List.cons.injEq, and_true] at e0 e1 e2 e3 e4 e5 e6
    exact ⟨⟨s, i1, i2, a3, b3, i4, a5, b5, i6⟩, by simp [e0, e1, e2, e3.1, e3.2, e4, e5.1, e5.2, e6], hs⟩

set_option maxRecDepth 100000 in
/-- Where a slice's address lies. -/
theorem slice_place {t e : TypeId} {a : Addr} {len cap b0 : Nat} (ht : Tryz.prog.underlying t = some (.slice e)) (h : Cell.okWide Tryz.prog W .any b0 t (.slice (some a) len cap)) : a.spot = none ∧ a.block < W.heap.size := by
  unfold Cell.okWide Cell.ok at h
  rw [ht] at h
  obtain ⟨_, _, _, h2, row, cells, h3, _⟩ := h
  refine ⟨h2, ?_⟩
  unfold World.shape? at h3
  rcases Nat.lt_or_ge a.block W.heap.size with hlt | hge
  · exact hlt
  · rw [Array.getElem?_eq_none hge] at h3
    cases h3

theorem add_plain' (b off i : Nat) : (⟨b, off, none⟩ : Addr).add i = ⟨b, off + i, none⟩ := by unfold Addr.add; split <;> simp_all

set_option maxRecDepth 100000 in
theorem open_plots {n b0 : Nat} {v : Value} {x : DataW H × List MemPlace} (hv : Cell.okWide Tryz.prog W .any b0 22 v) (h : DataW.trod enc Tryz.prog W base sp held n 22 [v] = some x) :
    ∃ a c l, v = .slice a (l : List Plt).length c ∧ IsPlts W v l := by
  rcases open_slice Tryz.underlying22 h with ⟨hcs, _⟩ | ⟨a, len, cap, m, n', D, Pl, hcs, hb, hl, hm, hmm, _, hx⟩
  · simp only [List.cons.injEq, and_true] at hcs
    subst hcs
    exact ⟨none, 0, [], rfl, .inl ⟨rfl, rfl⟩⟩
  · simp only [List.cons.injEq, and_true] at hcs
    subst hcs
    obtain ⟨hs, hblk⟩ := slice_place Tryz.underlying22 hv
    obtain ⟨b, off, spot⟩ := a
    simp only [] at hs hblk
    subst hs
    have hlm : len ≤ m := by rw [hmm]; split <;> omega
    obtain ⟨l, hll, hp⟩ := list_of (p := fun i (F : Plt) => PltAt W b (off + i * 9) F ∧ F.name.size ≤ maxLen) (n := len) fun i hi => by
      obtain ⟨cs', h1, h2⟩ := hx i (by omega)
      rw [cells_plot] at h1
      obtain ⟨_, _, hcell⟩ := World.cells?_some h1
      obtain ⟨F, rfl, hF⟩ := open_plot h2
      have c : ∀ k, k < 9 → W.cell? ⟨b, off + i * 9 + k, none⟩ = ((pltC F).toList)[k]? := fun k hk => by have := hcell k hk; rw [add_add, add_plain, ← Nat.add_assoc] at this; exact this
      exact ⟨F, ⟨c 0 (by omega), c 1 (by omega), c 2 (by omega), c 3 (by omega), c 4 (by omega), c 5 (by omega), c 6 (by omega), c 7 (by omega), c 8 (by omega)⟩, hF⟩
    subst hll
    unfold maxLen at hm
    exact ⟨_, cap, l, rfl, .inr ⟨b, off, cap, rfl, hblk, hl, by omega, hp⟩⟩

set_option maxRecDepth 100000 in
/-- **An argument of type api.Farm is a farm in memory.** -/
theorem open_farm {b0 : Nat} {v : Value} {d : DataW H} {ps : List MemPlace} (hv : Value.okWide Tryz.prog W .any b0 24 v) (h : DataW.Trod enc Tryz.prog W base sp held 24 v d ps) :
    ∃ R : Frm, v = .agg #[.slice R.pa R.ps.length R.pc, .int .i64 R.dry] ∧ IsFarm W R := by
  obtain ⟨fuel, hf⟩ := h
  unfold Value.okWide at hv
  rw [Tryz.underlying24] at hv
  obtain ⟨cs, rfl, hsz, ts, hts, _, hall⟩ := hv
  rw [cells_farm] at hsz
  rw [cellTypes_farm] at hts
  obtain rfl := Option.some.inj hts
  obtain ⟨l⟩ := cs
  match l, hsz with
  | [v0, v1], _ =>
    obtain ⟨u0, hu0, k0⟩ := hall 0 v0 rfl
    obtain rfl : 22 = u0 := by simpa using hu0
    obtain ⟨y0, y1, n, _, _, h0, h1⟩ := trod_struct2 Tryz.underlying24 hf
    simp only [cells_plots, cells_int, Value.cells, List.drop, List.take] at h0 h1
    obtain ⟨a, c, l0, rfl, hF⟩ := open_plots k0 h0
    obtain ⟨dr, e1, _, _⟩ := DataW.trod_int Tryz.underlying3 h1
    simp only [List.cons.injEq, and_true] at e1
    subst e1
    exact ⟨⟨a, c, l0, dr⟩, rfl, hF⟩

end
end
end Go.Proofs.YtfhalmlpnoepcaaGreat
namespace Go.Proofs.YtfhalmlpnoepcaaGreat
section
open Go.ChangeShapes Go.WideShapes Go.ChangeAt Go.RowKit Go.Deep

theorem cells_portion : Tryz.prog.cellsOf 79 = 2 := by kernel_rfl
theorem cells_heap : Tryz.prog.cellsOf 53 = 7 := by kernel_rfl
theorem cells_stage : Tryz.prog.cellsOf 51 = 1 := by kernel_rfl
theorem cells_portions : Tryz.prog.cellsOf 27 = 1 := by kernel_rfl
theorem cells_heaps : Tryz.prog.cellsOf 26 = 1 := by kernel_rfl
theorem cells_ints : Tryz.prog.cellsOf 25 = 1 := by kernel_rfl
theorem cells_store : Tryz.prog.cellsOf 29 = 6 := by kernel_rfl
theorem cellTypes_store : Tryz.prog.cellTypes Tryz.prog.depth 29 = some [3, 25, 25, 26, 27, 27] := by kernel_rfl

section
variable {H : Type} {enc : TypeId × Value → H} {W : World} {base : Nat} {sp : Nat → Bool} {held : Bool}

set_option maxRecDepth 100000 in
theorem open_portion {n : Nat} {cs : List Value} {x : DataW H × List MemPlace} (h : DataW.trod enc Tryz.prog W base sp held n 79 cs = some x) : ∃ p : Prt, cs = [.int .i64 p.plot, .int .i64 p.loads] := by
  obtain ⟨xs, n', rfl, _, hcl, hlen, hf⟩ := DataW.trod_struct Tryz.underlying79 h
  rw [cells_portion] at hcl
  match cs, xs, hcl, hlen with
  | [a, b], [y0, y1], _, _ =>
    have h0 := trod_at hf 0 3 0 1 rfl cells_int
    have h1 := trod_at hf 1 3 1 1 rfl cells_int
    simp only [List.drop, List.take] at h0 h1
    obtain ⟨p, e0, _, _⟩ := DataW.trod_int Tryz.underlying3 h0
    obtain ⟨q, e1, _, _⟩ := DataW.trod_int Tryz.underlying3 h1
    simp only [List.cons.injEq, and_true] at e0 e1
    exact ⟨⟨p, q⟩, by rw [e0, e1]⟩

set_option maxRecDepth 100000 in
theorem open_portions {n : Nat} {v : Value} {x : DataW H × List MemPlace} (h : DataW.trod enc Tryz.prog W base sp held n 27 [v] = some x) : ∃ a c l, v = .slice a (l : List Prt).length c ∧ IsPrts W a c l := by
  rcases open_slice Tryz.underlying27 h with ⟨hcs, _⟩ | ⟨a, len, cap, m, n', D, Pl, hcs, hb, hl, hm, hmm, _, hx⟩
  · simp only [List.cons.injEq, and_true] at hcs
    subst hcs
    exact ⟨none, 0, [], rfl, .inl rfl⟩
  · simp only [List.cons.injEq, and_true] at hcs
    subst hcs
    have hlm : len ≤ m := by rw [hmm]; split <;> omega
    obtain ⟨l, hll, hp⟩ := list_of (p := fun i (p : Prt) => W.cell? (a.add (i * 2)) = some (.int .i64 p.plot) ∧ W.cell? (a.add (i * 2 + 1)) = some (.int .i64 p.loads)) (n := len) fun i hi => by
      obtain ⟨cs', h1, h2⟩ := hx i (by omega)
      rw [cells_portion] at h1
      obtain ⟨_, _, hcell⟩ := World.cells?_some h1
      obtain ⟨p, rfl⟩ := open_portion h2
      have c0 := hcell 0 (by omega)
      have c1 := hcell 1 (by omega)
      rw [add_add] at c0 c1
      exact ⟨p, c0, c1⟩
    rcases Nat.eq_zero_or_pos len with h0 | h0
    · subst h0
      have : l = [] := List.eq_nil_of_length_eq_zero hll
      subst this
      exact ⟨some a, cap, [], rfl, .inl rfl⟩
    · obtain ⟨b, off, spot⟩ := a
      have hq : l[0]? = some l[0] := List.getElem?_eq_getElem (by omega)
      have hc0 := (hp 0 _ hq).1
      have hspot : spot = none := by simpa [Addr.add] using World.cell?_spot hc0
      subst hspot
      subst hll
      unfold maxLen at hm
      refine ⟨_, cap, l, rfl, .inr ⟨b, off, rfl, by simpa [Addr.add] using World.block_lt_of_cell? _ _ hc0, hl, by omega, fun j p hj => ?_⟩⟩
      have := hp j p hj
      rw [add_plain, add_plain] at this
      exact this

set_option maxRecDepth 100000 in
theorem open_ints {n : Nat} {v : Value} {x : DataW H × List MemPlace} (h : DataW.trod enc Tryz.prog W base sp held n 25 [v] = some x) : ∃ a c l, v = .slice a (l : List Int).length c ∧ IsNums W a c l := by
  rcases open_slice Tryz.underlying25 h with ⟨hcs, _⟩ | ⟨a, len, cap, m, n', D, Pl, hcs, hb, hl, hm, hmm, _, hx⟩
  · simp only [List.cons.injEq, and_true] at hcs
    subst hcs
    exact ⟨none, 0, [], rfl, .inl rfl⟩
  · simp only [List.cons.injEq, and_true] at hcs
    subst hcs
    have hlm : len ≤ m := by rw [hmm]; split <;> omega
    obtain ⟨l, hll, hp⟩ := list_of (p := fun i (p : Int) => W.cell? (a.add (i * 1)) = some (.int .i64 p)) (n := len) fun i hi => by
      obtain ⟨cs', h1, h2⟩ := hx i (by omega)
      rw [cells_int] at h1
      obtain ⟨_, _, hcell⟩ := World.cells?_some h1
      obtain ⟨p, rfl, _, _⟩ := DataW.trod_int Tryz.underlying3 h2
      have c0 := hcell 0 (by omega)
      rw [add_add] at c0
      exact ⟨p, c0⟩
    rcases Nat.eq_zero_or_pos len with h0 | h0
    · subst h0
      have : l = [] := List.eq_nil_of_length_eq_zero hll
      subst this
      exact ⟨some a, cap, [], rfl, .inl rfl⟩
    · obtain ⟨b, off, spot⟩ := a
      have hq : l[0]? = some l[0] := List.getElem?_eq_getElem (by omega)
      have hc0 := hp 0 _ hq
      have hspot : spot = none := by simpa [Addr.add] using World.cell?_spot hc0
      subst hspot
      subst hll
      unfold maxLen at hm
      refine ⟨_, cap, l, rfl, .inr ⟨b, off, rfl, by simpa [Addr.add] using World.block_lt_of_cell? _ _ hc0, hl, by omega, fun j p hj => ?_⟩⟩
      have := hp j p hj
      rw [add_plain] at this
      exact this

set_option maxRecDepth 100000 in
theorem open_heap {n : Nat} {cs : List Value} {x : DataW H × List MemPlace} (h : DataW.trod enc Tryz.prog W base sp held n 53 cs = some x) : ∃ F : Hep, cs = (hepC F).toList ∧ IsPrts W F.pa F.pc F.parts ∧ F.name.size ≤ maxLen := by
  obtain ⟨xs, n', rfl, _, hcl, hlen, hf⟩ := DataW.trod_struct Tryz.underlying53 h
  rw [cells_heap] at hcl
  match cs, xs, hcl, hlen with
  | [c0, c1, c2, c3, c4, c5, c6], [y0, y1, y2, y3, y4, y5], _, _ =>
    have h0 := trod_at hf 0 9 0 1 rfl cells_name
    have h1 := trod_at hf 1 48 1 1 rfl cells_crop
    have h2 := trod_at hf 2 51 2 1 rfl cells_stage
    have h3 := trod_at hf 3 27 3 1 rfl cells_portions
    have h4 := trod_at hf 4 3 4 1 rfl cells_int
    have h5 := trod_at hf 5 32 5 2 rfl cells_span
    simp only [List.drop, List.take] at h0 h1 h2 h3 h4 h5
    obtain ⟨s, e0, _, hs⟩ := DataW.trod_string Tryz.underlying9 h0
    obtain ⟨i1, e1, _, _⟩ := DataW.trod_int Tryz.underlying48 h1
    obtain ⟨i2, e2, _, _⟩ := DataW.trod_int Tryz.underlying51 h2
    obtain ⟨a, c, l, e3, hp⟩ := open_portions h3
    obtain ⟨i4, e4, _, _⟩ := DataW.trod_int Tryz.underlying3 h4
    obtain ⟨a5, b5, e5⟩ := open_span h5
    simp only [List.cons.injEq, and_true] at e0 e1 e2 e4 e5
    subst e3
    exact ⟨⟨s, i1, i2, a, c, l, i4, a5, b5⟩, by simp [e0, e1, e2, e4, e5.1, e5.2], hp, hs⟩

set_option maxRecDepth 100000 in
theorem open_heaps {n b0 : Nat} {v : Value} {x : DataW H × List MemPlace} (hv : Cell.okWide Tryz.prog W .any b0 26 v) (h : DataW.trod enc Tryz.prog W base sp held n 26 [v] = some x) :
    ∃ a c l, v = .slice a (l : List Hep).length c ∧ IsHeps W a c l := by
  rcases open_slice Tryz.underlying26 h with ⟨hcs, _⟩ | ⟨a, len, cap, m, n', D, Pl, hcs, hb, hl, hm, hmm, _, hx⟩
  · simp only [List.cons.injEq, and_true] at hcs
    subst hcs
    exact ⟨none, 0, [], rfl, .inl rfl⟩
  · simp only [List.cons.injEq, and_true] at hcs
    subst hcs
    obtain ⟨hs, hblk⟩ := slice_place Tryz.underlying26 hv
    obtain ⟨b, off, spot⟩ := a
    simp only [] at hs hblk
    subst hs
    have hlm : len ≤ m := by rw [hmm]; split <;> omega
    obtain ⟨l, hll, hp⟩ := list_of (p := fun i (F : Hep) => HepAt W b (off + i * 7) F) (n := len) fun i hi => by
      obtain ⟨cs', h1, h2⟩ := hx i (by omega)
      rw [cells_heap] at h1
      obtain ⟨_, _, hcell⟩ := World.cells?_some h1
      obtain ⟨F, rfl, hF, hnm⟩ := open_heap h2
      have c : ∀ k, k < 7 → W.cell? ⟨b, off + i * 7 + k, none⟩ = ((hepC F).toList)[k]? := fun k hk => by have := hcell k hk; rw [add_add, add_plain, ← Nat.add_assoc] at this; exact this
      exact ⟨F, ⟨c 0 (by omega), c 1 (by omega), c 2 (by omega), c 3 (by omega), c 4 (by omega), c 5 (by omega), c 6 (by omega)⟩, hF, hnm⟩
    subst hll
    unfold maxLen at hm
    exact ⟨_, cap, l, rfl, .inr ⟨b, off, rfl, hblk, hl, by omega, hp⟩⟩

set_option maxRecDepth 100000 in
/-- **An argument of type api.Store is a store in memory.** -/
theorem open_store {b0 : Nat} {v : Value} {d : DataW H} {ps : List MemPlace} (hv : Value.okWide Tryz.prog W .any b0 29 v) (h : DataW.Trod enc Tryz.prog W base sp held 29 v d ps) :
    ∃ S : Sto, v = .agg #[.int .i64 S.year, .slice S.la S.last.length S.lc, .slice S.ga S.given.length S.gc, .slice S.ha S.heaps.length S.hc, .slice S.ua S.used.length S.uc, .slice S.wa S.waste.length S.wc] ∧ IsStore W S := by
  obtain ⟨fuel, hf⟩ := h
  unfold Value.okWide at hv
  rw [Tryz.underlying29] at hv
  obtain ⟨cs, rfl, hsz, ts, hts, _, hall⟩ := hv
  rw [cells_store] at hsz
  rw [cellTypes_store] at hts
  obtain rfl := Option.some.inj hts
  obtain ⟨l⟩ := cs
  match l, hsz with
  | [v0, v1, v2, v3, v4, v5], _ =>
    obtain ⟨u3, hu3, k3⟩ := hall 3 v3 rfl
    obtain rfl : 26 = u3 := by simpa using hu3
    obtain ⟨xs, n', _, _, hcl, hlen, hg⟩ := DataW.trod_struct Tryz.underlying29 hf
    match xs, hlen with
    | [y0, y1, y2, y3, y4, y5], _ =>
      have h0 := trod_at hg 0 3 0 1 rfl cells_int
      have h1 := trod_at hg 1 25 1 1 rfl cells_ints
      have h2 := trod_at hg 2 25 2 1 rfl cells_ints
      have h3 := trod_at hg 3 26 3 1 rfl cells_heaps
      have h4 := trod_at hg 4 27 4 1 rfl cells_portions
      have h5 := trod_at hg 5 27 5 1 rfl cells_portions
      simp only [Value.cells, List.drop, List.take] at h0 h1 h2 h3 h4 h5
      obtain ⟨yr, e0, _, _⟩ := DataW.trod_int Tryz.underlying3 h0
      obtain ⟨a1, c1, l1, rfl, r1⟩ := open_ints h1
      obtain ⟨a2, c2, l2, rfl, r2⟩ := open_ints h2
      obtain ⟨a3, c3, l3, rfl, r3⟩ := open_heaps k3 h3
      obtain ⟨a4, c4, l4, rfl, r4⟩ := open_portions h4
      obtain ⟨a5, c5, l5, rfl, r5⟩ := open_portions h5
      simp only [List.cons.injEq, and_true] at e0
      subst e0
      exact ⟨⟨yr, a1, c1, l1, a2, c2, l2, a3, c3, l3, a4, c4, l4, a5, c5, l5⟩, rfl, r1, r2, r3, r4, r5⟩
end
end
end Go.Proofs.YtfhalmlpnoepcaaGreat
namespace Go.Proofs.YtfhalmlpnoepcaaGreat
section
open Go.ChangeShapes Go.WideShapes Go.ChangeAt Go.RowKit Go.Deep

theorem cells_choreP : Tryz.prog.cellsOf 34 = 9 := by kernel_rfl
theorem cells_kindP : Tryz.prog.cellsOf 30 = 1 := by kernel_rfl

section
variable {H : Type} {enc : TypeId × Value → H} {W : World} {base : Nat} {sp : Nat → Bool} {held : Bool}

set_option maxRecDepth 100000 in
theorem open_choreP {n : Nat} {cs : List Value} {x : DataW H × List MemPlace} (h : DataW.trod enc Tryz.prog W base sp held n 34 cs = some x) : ∃ F : Chr, cs = (chrC F).toList ∧ F.name.size ≤ maxLen ∧ F.other.size ≤ maxLen ∧ (-9223372036854775808 ≤ F.plot ∧ F.plot ≤ 9223372036854775807) := by
  obtain ⟨xs, n', rfl, _, hcl, hlen, hf⟩ := DataW.trod_struct Tryz.underlying34 h
  rw [cells_choreP] at hcl
  match cs, xs, hcl, hlen with
  | [c0, c1, c2, c3, c4, c5, c6, c7, c8], [y0, y1, y2, y3, y4, y5, y6, y7], _, _ =>
    have h0 := trod_at hf 0 30 0 1 rfl cells_kindP
    have h1 := trod_at hf 1 3 1 1 rfl cells_int
    have h2 := trod_at hf 2 3 2 1 rfl cells_int
    have h3 := trod_at hf 3 9 3 1 rfl cells_name
    have h4 := trod_at hf 4 9 4 1 rfl cells_name
    have h5 := trod_at hf 5 3 5 1 rfl cells_int
    have h6 := trod_at hf 6 3 6 1 rfl cells_int
    have h7 := trod_at hf 7 32 7 2 rfl cells_span
    simp only [List.drop, List.take] at h0 h1 h2 h3 h4 h5 h6 h7
    obtain ⟨i0, e0, _, _⟩ := DataW.trod_int Tryz.underlying30 h0
    obtain ⟨i1, e1, _, hw1⟩ := DataW.trod_int Tryz.underlying3 h1
    obtain ⟨i2, e2, _, _⟩ := DataW.trod_int Tryz.underlying3 h2
    obtain ⟨s3, e3, _, hs3⟩ := DataW.trod_string Tryz.underlying9 h3
    obtain ⟨s4, e4, _, hs4⟩ := DataW.trod_string Tryz.underlying9 h4
    obtain ⟨i5, e5, _, _⟩ := DataW.trod_int Tryz.underlying3 h5
    obtain ⟨i6, e6, _, _⟩ := DataW.trod_int Tryz.underlying3 h6
    obtain ⟨a7, b7, e7⟩ := open_span h7
    simp only [List.cons.injEq, and_true] at e0 e1 e2 e3 e4 e5 e6 e7
    exact ⟨⟨i0, i1, i2, s3, s4, i5, i6, a7, b7⟩, by simp [e0, e1, e2, e3, e4, e5, e6, e7.1, e7.2], hs3, hs4, by have := hw1; simp only [Lit.wf, Bool.and_eq_true, decide_eq_true_eq] at this; exact this⟩

set_option maxRecDepth 100000 in
/-- **An argument of type api.Chore is a chore.** -/
theorem open_chore1 {b0 : Nat} {v : Value} {d : DataW H} {ps : List MemPlace} (hv : Value.okWide Tryz.prog W .any b0 34 v) (h : DataW.Trod enc Tryz.prog W base sp held 34 v d ps) :
    ∃ a : Chr, v = .agg (chrC a) ∧ a.name.size ≤ maxLen ∧ a.other.size ≤ maxLen := by
  obtain ⟨fuel, hf⟩ := h
  unfold Value.okWide at hv
  rw [Tryz.underlying34] at hv
  obtain ⟨cs, rfl, hsz, ts, hts, _, hall⟩ := hv
  obtain ⟨l⟩ := cs
  have hf' : DataW.trod enc Tryz.prog W base sp held fuel 34 l = some (d, ps) := hf
  obtain ⟨F, e, h1, h2, _⟩ := open_choreP hf'
  subst e
  exact ⟨F, rfl, h1, h2⟩
end
end
end Go.Proofs.YtfhalmlpnoepcaaGreat
