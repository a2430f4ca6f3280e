/- A roof among the arguments, opened: whatever reads as data of type api.Roof is a roof in memory. -/
import Derived.Test.YtpdgcajbdaleeaaR
import Derived.OpenShut
import Derived.Deep.Slices
import Derived.ProofKit
namespace Go.Proofs.Ytpdgcajbdaleeaa
open Go.ChangeShapes Go.WideShapes Go.ChangeAt Go.RowKit Go.Deep

theorem cells_name : Try.prog.cellsOf 9 = 1 := by kernel_rfl
theorem cells_int : Try.prog.cellsOf 3 = 1 := by kernel_rfl
theorem cells_side : Try.prog.cellsOf 69 = 1 := by kernel_rfl
theorem cells_at : Try.prog.cellsOf 27 = 2 := by kernel_rfl
theorem cells_ats : Try.prog.cellsOf 70 = 1 := by kernel_rfl
theorem cells_face : Try.prog.cellsOf 72 = 7 := by kernel_rfl
theorem cells_open : Try.prog.cellsOf 76 = 6 := by kernel_rfl
theorem cells_roof : Try.prog.cellsOf 25 = 2 := by kernel_rfl
theorem cells_faces : Try.prog.cellsOf 22 = 1 := by kernel_rfl
theorem cells_opens : Try.prog.cellsOf 23 = 1 := by kernel_rfl
theorem cellTypes_roof : Try.prog.cellTypes Try.prog.depth 25 = some [22, 23] := by kernel_rfl

section
variable {H : Type} {enc : TypeId × Value → H} {W : World} {base : Nat} {sp : Nat → Bool} {held : Bool}

theorem trod_at {n : Nat} {fs : Array Field} {cs : List Value} {xs : List (DataW H × List MemPlace)}
    (hf : ∀ (i : Nat) (f : Field), fs[i]? = some f → DataW.trod enc Try.prog W base sp held n f.type (List.take (Try.prog.cellsOf f.type) (List.drop f.offset cs)) = xs[i]?)
    (i ty off k : Nat) (hi : (fs[i]?).map (fun f => (f.type, f.offset)) = some (ty, off)) (hc : Try.prog.cellsOf ty = k) : DataW.trod enc Try.prog W base sp held n ty (List.take k (List.drop off cs)) = xs[i]? := by
  cases h : fs[i]? with
  | none => rw [h] at hi; cases hi
  | some f =>
    rw [h] at hi
    simp only [Option.map_some, Option.some.injEq, Prod.mk.injEq] at hi
    obtain ⟨rfl, rfl⟩ := hi
    rw [← hc]
    exact hf i f h

set_option maxRecDepth 100000 in
theorem open_point {n : Nat} {cs : List Value} {x : DataW H × List MemPlace} (h : DataW.trod enc Try.prog W base sp held n 27 cs = some x) : ∃ p : Pnt, cs = [.int .i64 p.x, .int .i64 p.y] := by
  obtain ⟨xs, n', rfl, _, hcl, hlen, hf⟩ := DataW.trod_struct Try.underlying27 h
  rw [cells_at] at hcl
  match cs, xs, hcl, hlen with
  | [a, b], [y0, y1], _, _ =>
    have h0 := trod_at hf 0 3 0 1 rfl cells_int
    have h1 := trod_at hf 1 3 1 1 rfl cells_int
    simp only [List.drop, List.take] at h0 h1
    obtain ⟨p, e0, _, _⟩ := DataW.trod_int Try.underlying3 h0
    obtain ⟨q, e1, _, _⟩ := DataW.trod_int Try.underlying3 h1
    simp only [List.cons.injEq, and_true] at e0 e1
    exact ⟨⟨p, q⟩, by rw [e0, e1]⟩

theorem list_of {α : Type} {n : Nat} {p : Nat → α → Prop} (h : ∀ i, i < n → ∃ x, p i x) : ∃ l : List α, l.length = n ∧ ∀ j x, l[j]? = some x → p j x := by
  induction n with
  | zero => exact ⟨[], rfl, fun j x hx => by simp at hx⟩
  | succ n ih =>
    obtain ⟨l, hl, hp⟩ := ih fun i hi => h i (by omega)
    obtain ⟨x, hx⟩ := h n (by omega)
    refine ⟨l ++ [x], by simp [hl], fun j y hy => ?_⟩
    by_cases hj : j < n
    · rw [List.getElem?_append_left (by omega)] at hy
      exact hp j y hy
    · by_cases hjn : j = n
      · subst hjn
        rw [← hl, List.getElem?_append_right (Nat.le_refl _)] at hy
        obtain rfl : x = y := by simpa using hy
        exact hx
      · rw [List.getElem?_eq_none (by simp; omega)] at hy
        cases hy

set_option maxRecDepth 100000 in
theorem open_points {n : Nat} {v : Value} {x : DataW H × List MemPlace} (h : DataW.trod enc Try.prog W base sp held n 70 [v] = some x) : ∃ a c l, v = .slice a (l : List Pnt).length c ∧ IsPts W v l := by
  rcases open_slice Try.underlying70 h with ⟨hcs, _⟩ | ⟨a, len, cap, m, n', D, Pl, hcs, hb, hl, hm, hmm, _, hx⟩
  · simp only [List.cons.injEq, and_true] at hcs
    subst hcs
    exact ⟨none, 0, [], rfl, .inl ⟨⟨none, 0, rfl⟩, rfl⟩⟩
  · simp only [List.cons.injEq, and_true] at hcs
    subst hcs
    have hlm : len ≤ m := by rw [hmm]; split <;> omega
    obtain ⟨l, hll, hp⟩ := list_of (p := fun i (p : Pnt) => W.cell? (a.add (i * 2)) = some (.int .i64 p.x) ∧ W.cell? (a.add (i * 2 + 1)) = some (.int .i64 p.y)) (n := len) fun i hi => by
      obtain ⟨cs', h1, h2⟩ := hx i (by omega)
      rw [cells_at] at h1
      obtain ⟨_, _, hcell⟩ := World.cells?_some h1
      obtain ⟨p, rfl⟩ := open_point h2
      have c0 := hcell 0 (by omega)
      have c1 := hcell 1 (by omega)
      rw [add_add] at c0 c1
      exact ⟨p, c0, c1⟩
    rcases Nat.eq_zero_or_pos len with h0 | h0
    · subst h0
      have : l = [] := List.eq_nil_of_length_eq_zero hll
      subst this
      exact ⟨some a, cap, [], rfl, .inl ⟨⟨_, _, rfl⟩, rfl⟩⟩
    · obtain ⟨b, off, spot⟩ := a
      have hq : l[0]? = some l[0] := List.getElem?_eq_getElem (by omega)
      have hc0 := (hp 0 _ hq).1
      have hspot : spot = none := by simpa [Addr.add] using World.cell?_spot hc0
      subst hspot
      subst hll
      unfold maxLen at hm
      refine ⟨_, cap, l, rfl, .inr ⟨b, off, cap, rfl, by simpa [Addr.add] using World.block_lt_of_cell? _ _ hc0, hl, by omega, fun j p hj => ?_⟩⟩
      have := hp j p hj
      rw [add_plain, add_plain] at this
      exact this

set_option maxRecDepth 100000 in
theorem open_face {n : Nat} {cs : List Value} {x : DataW H × List MemPlace} (h : DataW.trod enc Try.prog W base sp held n 72 cs = some x) :
    ∃ F : Fac, cs = [.string F.name, .int .i64 F.side, .int .i64 F.foot, .int .i64 F.base, .int .i64 F.rise, .int .i64 F.run, .slice F.ca F.cs.length F.cc] ∧ FacIn W F := by
  obtain ⟨xs, n', rfl, _, hcl, hlen, hf⟩ := DataW.trod_struct Try.underlying72 h
  rw [cells_face] at hcl
  match cs, xs, hcl, hlen with
  | [c0, c1, c2, c3, c4, c5, c6], [y0, y1, y2, y3, y4, y5, y6], _, _ =>
    have h0 := trod_at hf 0 9 0 1 rfl cells_name
    have h1 := trod_at hf 1 69 1 1 rfl cells_side
    have h2 := trod_at hf 2 3 2 1 rfl cells_int
    have h3 := trod_at hf 3 3 3 1 rfl cells_int
    have h4 := trod_at hf 4 3 4 1 rfl cells_int
    have h5 := trod_at hf 5 3 5 1 rfl cells_int
    have h6 := trod_at hf 6 70 6 1 rfl cells_ats
    simp only [List.drop, List.take] at h0 h1 h2 h3 h4 h5 h6
    obtain ⟨s, e0, _, hs⟩ := DataW.trod_string Try.underlying9 h0
    obtain ⟨i1, e1, _, _⟩ := DataW.trod_int Try.underlying69 h1
    obtain ⟨i2, e2, _, _⟩ := DataW.trod_int Try.underlying3 h2
    obtain ⟨i3, e3, _, _⟩ := DataW.trod_int Try.underlying3 h3
    obtain ⟨i4, e4, _, _⟩ := DataW.trod_int Try.underlying3 h4
    obtain ⟨i5, e5, _, _⟩ := DataW.trod_int Try.underlying3 h5
    obtain ⟨a, c, l, e6, hp⟩ := open_points h6
    simp only [List.cons.injEq, and_true] at e0 e1 e2 e3 e4 e5
    subst e6
    exact ⟨⟨s, i1, i2, i3, i4, i5, a, c, l⟩, by rw [e0, e1, e2, e3, e4, e5], hp, hs⟩

set_option maxRecDepth 100000 in
theorem open_open {n : Nat} {cs : List Value} {x : DataW H × List MemPlace} (h : DataW.trod enc Try.prog W base sp held n 76 cs = some x) :
    ∃ F : Opn, cs = [.string F.name, .int .i64 F.face, .int .i64 F.lo.x, .int .i64 F.lo.y, .int .i64 F.hi.x, .int .i64 F.hi.y] ∧ F.name.size ≤ maxLen := by
  obtain ⟨xs, n', rfl, _, hcl, hlen, hf⟩ := DataW.trod_struct Try.underlying76 h
  rw [cells_open] at hcl
  match cs, xs, hcl, hlen with
  | [c0, c1, c2, c3, c4, c5], [y0, y1, y2, y3], _, _ =>
    have h0 := trod_at hf 0 9 0 1 rfl cells_name
    have h1 := trod_at hf 1 3 1 1 rfl cells_int
    have h2 := trod_at hf 2 27 2 2 rfl cells_at
    have h3 := trod_at hf 3 27 4 2 rfl cells_at
    simp only [List.drop, List.take] at h0 h1 h2 h3
    obtain ⟨s, e0, _, hs⟩ := DataW.trod_string Try.underlying9 h0
    obtain ⟨i1, e1, _, _⟩ := DataW.trod_int Try.underlying3 h1
    obtain ⟨p, e2⟩ := open_point h2
    obtain ⟨q, e3⟩ := open_point h3
    simp only [List.cons.injEq, and_true] at e0 e1 e2 e3
    exact ⟨⟨s, i1, p, q⟩, by rw [e0, e1, e2.1, e2.2, e3.1, e3.2], hs⟩

set_option maxRecDepth 100000 in
/-- Where a slice's address lies. -/
theorem slice_place {t e : TypeId} {a : Addr} {len cap b0 : Nat} (ht : Try.prog.underlying t = some (.slice e)) (h : Cell.okWide Try.prog W .any b0 t (.slice (some a) len cap)) : a.spot = none ∧ a.block < W.heap.size := by
  unfold Cell.okWide Cell.ok at h
  rw [ht] at h
  obtain ⟨_, _, _, h2, row, cells, h3, _⟩ := h
  refine ⟨h2, ?_⟩
  unfold World.shape? at h3
  rcases Nat.lt_or_ge a.block W.heap.size with hlt | hge
  · exact hlt
  · rw [Array.getElem?_eq_none hge] at h3
    cases h3

set_option maxRecDepth 100000 in
theorem open_faces {n b0 : Nat} {v : Value} {x : DataW H × List MemPlace} (hv : Cell.okWide Try.prog W .any b0 22 v) (h : DataW.trod enc Try.prog W base sp held n 22 [v] = some x) :
    ∃ a c l, v = .slice a (l : List Fac).length c ∧ IsFacs W v l := by
  rcases open_slice Try.underlying22 h with ⟨hcs, _⟩ | ⟨a, len, cap, m, n', D, Pl, hcs, hb, hl, hm, hmm, _, hx⟩
  · simp only [List.cons.injEq, and_true] at hcs
    subst hcs
    exact ⟨none, 0, [], rfl, .inl ⟨rfl, rfl⟩⟩
  · simp only [List.cons.injEq, and_true] at hcs
    subst hcs
    obtain ⟨hs, hblk⟩ := slice_place Try.underlying22 hv
    obtain ⟨b, off, spot⟩ := a
    simp only [] at hs hblk
    subst hs
    have hlm : len ≤ m := by rw [hmm]; split <;> omega
    obtain ⟨l, hll, hp⟩ := list_of (p := fun i (F : Fac) => FacAt W b (off + i * 7) F ∧ FacIn W F) (n := len) fun i hi => by
      obtain ⟨cs', h1, h2⟩ := hx i (by omega)
      rw [cells_face] at h1
      obtain ⟨_, _, hcell⟩ := World.cells?_some h1
      obtain ⟨F, rfl, hF⟩ := open_face h2
      have c : ∀ k, k < 7 → W.cell? ⟨b, off + i * 7 + k, none⟩ = ([.string F.name, .int .i64 F.side, .int .i64 F.foot, .int .i64 F.base, .int .i64 F.rise, .int .i64 F.run, .slice F.ca F.cs.length F.cc] : List Value)[k]? := fun k hk => by have := hcell k hk; rw [add_add, add_plain, ← Nat.add_assoc] at this; exact this
      exact ⟨F, ⟨c 0 (by omega), c 1 (by omega), c 2 (by omega), c 3 (by omega), c 4 (by omega), c 5 (by omega), c 6 (by omega)⟩, hF⟩
    subst hll
    unfold maxLen at hm
    exact ⟨_, cap, l, rfl, .inr ⟨b, off, cap, rfl, hblk, hl, by omega, hp⟩⟩

set_option maxRecDepth 100000 in
theorem open_opens {n b0 : Nat} {v : Value} {x : DataW H × List MemPlace} (hv : Cell.okWide Try.prog W .any b0 23 v) (h : DataW.trod enc Try.prog W base sp held n 23 [v] = some x) :
    ∃ a c l, v = .slice a (l : List Opn).length c ∧ IsOpns W v l := by
  rcases open_slice Try.underlying23 h with ⟨hcs, _⟩ | ⟨a, len, cap, m, n', D, Pl, hcs, hb, hl, hm, hmm, _, hx⟩
  · simp only [List.cons.injEq, and_true] at hcs
    subst hcs
    exact ⟨none, 0, [], rfl, .inl ⟨rfl, rfl⟩⟩
  · simp only [List.cons.injEq, and_true] at hcs
    subst hcs
    obtain ⟨hs, hblk⟩ := slice_place Try.underlying23 hv
    obtain ⟨b, off, spot⟩ := a
    simp only [] at hs hblk
    subst hs
    have hlm : len ≤ m := by rw [hmm]; split <;> omega
    obtain ⟨l, hll, hp⟩ := list_of (p := fun i (F : Opn) => OpnAt W b (off + i * 6) F ∧ F.name.size ≤ maxLen) (n := len) fun i hi => by
      obtain ⟨cs', h1, h2⟩ := hx i (by omega)
      rw [cells_open] at h1
      obtain ⟨_, _, hcell⟩ := World.cells?_some h1
      obtain ⟨F, rfl, hF⟩ := open_open h2
      have c : ∀ k, k < 6 → W.cell? ⟨b, off + i * 6 + k, none⟩ = ([.string F.name, .int .i64 F.face, .int .i64 F.lo.x, .int .i64 F.lo.y, .int .i64 F.hi.x, .int .i64 F.hi.y] : List Value)[k]? := fun k hk => by have := hcell k hk; rw [add_add, add_plain, ← Nat.add_assoc] at this; exact this
      exact ⟨F, ⟨c 0 (by omega), c 1 (by omega), c 2 (by omega), c 3 (by omega), c 4 (by omega), c 5 (by omega)⟩, hF⟩
    subst hll
    unfold maxLen at hm
    exact ⟨_, cap, l, rfl, .inr ⟨b, off, cap, rfl, hblk, hl, by omega, hp⟩⟩

set_option maxRecDepth 100000 in
/-- **An argument of type api.Roof is a roof in memory.** -/
theorem open_roo {b0 : Nat} {v : Value} {d : DataW H} {ps : List MemPlace} (hv : Value.okWide Try.prog W .any b0 25 v) (h : DataW.Trod enc Try.prog W base sp held 25 v d ps) :
    ∃ R : Roo, v = .agg #[.slice R.fa R.fs.length R.fc, .slice R.oa R.os.length R.oc] ∧ IsRoof W R := by
  obtain ⟨fuel, hf⟩ := h
  unfold Value.okWide at hv
  rw [Try.underlying25] at hv
  obtain ⟨cs, rfl, hsz, ts, hts, _, hall⟩ := hv
  rw [cells_roof] at hsz
  rw [cellTypes_roof] at hts
  obtain rfl := Option.some.inj hts
  obtain ⟨l⟩ := cs
  match l, hsz with
  | [v0, v1], _ =>
    obtain ⟨u0, hu0, k0⟩ := hall 0 v0 rfl
    obtain ⟨u1, hu1, k1⟩ := hall 1 v1 rfl
    obtain rfl : 22 = u0 := by simpa using hu0
    obtain rfl : 23 = u1 := by simpa using hu1
    obtain ⟨y0, y1, n, _, _, h0, h1⟩ := trod_struct2 Try.underlying25 hf
    simp only [cells_faces, cells_opens, Value.cells, List.drop, List.take] at h0 h1
    obtain ⟨a, c, l0, rfl, hF⟩ := open_faces k0 h0
    obtain ⟨a', c', l1, rfl, hO⟩ := open_opens k1 h1
    exact ⟨⟨a, c, l0, a', c', l1⟩, rfl, hF, hO⟩

set_option maxRecDepth 100000 in
/-- An argument of type api.At. -/
theorem open_at {v : Value} {d : DataW H} {ps : List MemPlace} {b0 : Nat} (hv : Value.okWide Try.prog W .any b0 27 v) (h : DataW.Trod enc Try.prog W base sp held 27 v d ps) : ∃ p : Pnt, v = .agg #[.int .i64 p.x, .int .i64 p.y] := by
  obtain ⟨fuel, hf⟩ := h
  obtain ⟨cs, rfl, hsz⟩ := okWide_struct Try.underlying27 hv
  obtain ⟨p, hp⟩ := open_point hf
  obtain ⟨l⟩ := cs
  have : l = [.int .i64 p.x, .int .i64 p.y] := by simpa [Value.cells] using hp
  subst this
  exact ⟨p, rfl⟩
end
end Go.Proofs.Ytpdgcajbdaleeaa
