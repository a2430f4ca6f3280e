/- Great, far; a skin among the arguments, opened: whatever reads as data of type api.Skin is a skin in memory. No condition. -/
import Derived.Test.YtoigihmgjacbjaaDoorVA
import Derived.Test.YtoigihmgjacbjaaDoorWR
set_option linter.unusedSimpArgs false
namespace Go.Proofs.YtoigihmgjacbjaaDoor
section
open Go.RowKit

/-- Some yes or no. -/
def BoolEnd (e : Ending) : Prop := ∃ b, e = .returned (.bool b)
theorem long_any (n : Int) (w : World) : Calls Tryd.prog 26 #[.int .i64 n] w fun e w' => BoolEnd e ∧ w' = w := by
  by_cases h : n < -9999999999
  all_goals by_cases h2 : 9999999999 < n
  all_goals
    go_enter Tryd.func26, Tryd.ntmps26
    go_wp2
    all_goals go_ret
    all_goals exact ⟨⟨_, rfl⟩, rfl⟩
set_option maxRecDepth 100000 in
set_option maxHeartbeats 8000000 in
theorem great_any (S : Skn) (w : World) (hS : IsSkn w S) : Calls Tryd.prog 11 #[.agg #[.slice S.pa S.pts.length S.pc, .slice S.ha S.hs.length S.hc, .int .i64 S.steep, .int .i64 S.th.lo, .int .i64 S.th.hi, .slice S.ma S.ms.length S.mc]] w fun e w' => BoolEnd e ∧ Below w.heap.size w w' := by
  have k1 := Blk.new w 30 #[.slice S.pa S.pts.length S.pc, .slice S.ha S.hs.length S.hc, .int .i64 S.steep, .int .i64 S.th.lo, .int .i64 S.th.hi, .slice S.ma S.ms.length S.mc]
  have hb1 : Below w.heap.size w (w.alloc (.cells #[.slice S.pa S.pts.length S.pc, .slice S.ha S.hs.length S.hc, .int .i64 S.steep, .int .i64 S.th.lo, .int .i64 S.th.hi, .slice S.ma S.ms.length S.mc] 30)) := (Below.refl _ w).alloc (Nat.le_refl _) _
  have hh := hS.hs
  have hlen := hh.len
  clear hS
  generalize S.ha = ha at *
  have HH := Lib.hid hh
  clear hh
  go_enter Tryd.func11, Tryd.ntmps11
  go_upto_region 1 with fail
  generalize (w.alloc (.cells #[.slice S.pa S.pts.length S.pc, .slice ha S.hs.length S.hc, .int .i64 S.steep, .int .i64 S.th.lo, .int .i64 S.th.hi, .slice S.ma S.ms.length S.mc] 30)) = w1 at *
  obtain ⟨s0, s1, s2, s3, s4, s5⟩ := (show w1.cell? ⟨w.heap.size, 0, none⟩ = some (.slice S.pa S.pts.length S.pc) ∧ w1.cell? ⟨w.heap.size, 1, none⟩ = some (.slice ha S.hs.length S.hc) ∧ w1.cell? ⟨w.heap.size, 2, none⟩ = some (.int .i64 S.steep) ∧ w1.cell? ⟨w.heap.size, 3, none⟩ = some (.int .i64 S.th.lo) ∧ w1.cell? ⟨w.heap.size, 4, none⟩ = some (.int .i64 S.th.hi) ∧ w1.cell? ⟨w.heap.size, 5, none⟩ = some (.slice S.ma S.ms.length S.mc) from ⟨k1.cell 0, k1.cell 1, k1.cell 2, k1.cell 3, k1.cell 4, k1.cell 5⟩)
  have l1 := k1.lt
  have HB1 := Lib.hid hb1
  have K1 := Lib.hid k1
  clear k1 hb1
  by_cases c1 : 30 < S.pts.length
  · have q1 : (30 : Int) < (S.pts.length : Int) := by omega
    go_wp2_with fail
    go_ret
    exact ⟨⟨_, rfl⟩, HB1.out⟩
  have q1 : ¬ (30 : Int) < (S.pts.length : Int) := by omega
  by_cases c2 : 30 < S.hs.length
  · have q2 : (30 : Int) < (S.hs.length : Int) := by omega
    clear c1 c2
    go_wp2_with fail
    go_ret
    exact ⟨⟨_, rfl⟩, HB1.out⟩
  have q2 : ¬ (30 : Int) < (S.hs.length : Int) := by omega
  by_cases c3 : 60 < S.ms.length
  · have q3 : (60 : Int) < (S.ms.length : Int) := by omega
    clear c1 c2 c3
    go_wp2_with fail
    go_ret
    exact ⟨⟨_, rfl⟩, HB1.out⟩
  have q3 : ¬ (60 : Int) < (S.ms.length : Int) := by omega
  clear c1 c2 c3
  go_wp2_with fail
  go_loopw [3, 4] (fun s3 _ wr => ∃ j : Nat, j ≤ S.hs.length ∧ s3 = .int .i64 j ∧ Below w1.heap.size w1 wr) (fun i _ _ => S.hs.length - (intOf i).toNat)
  case atStart => exact ⟨0, Nat.zero_le _, rfl, Below.refl _ _⟩
  case round =>
  clear s0 s1 s2 s3 s4 s5 l1 q1 q2 q3
  obtain ⟨j, hj, rfl, hb3⟩ := hrel
  obtain ⟨w3, rfl⟩ : ∃ w3 : World, w3 = wr := ⟨_, rfl⟩
  have k3 := K1.out.belowS hb3
  have s1 : w3.cell? ⟨w.heap.size, 1, none⟩ = some (.slice ha S.hs.length S.hc) := k3.cell 1
  have l1 := k3.lt
  clear k3
  by_cases hlj : j < S.hs.length
  · have hlj' : (j : Int) < (S.hs.length : Int) := by omega
    have hj0 : (0 : Int) ≤ (j : Int) := Int.natCast_nonneg _
    have hjs : IntKind.i64.wrap ((j : Int) + 1) = ((j + 1 : Nat) : Int) := by rw [IntKind.wrap_i64]; omega
    have hq : S.hs[j]? = some S.hs[j] := List.getElem?_eq_getElem hlj
    obtain ⟨b, off, hea, hbl, hcap, hcx, x0, x1, x2, x3⟩ := ((HH.out.below HB1.out).below hb3).at hq
    generalize S.hs[j] = h at *
    simp only [holC, List.getElem?_toArray, List.getElem?_cons_zero, List.getElem?_cons_succ] at x0 x1 x2 x3
    subst hea
    have HLJ := Lib.hid hlj
    have kH := Blk.new w3 64 #[.int .i64 h.a.x, .int .i64 h.a.y, .int .i64 h.b.x, .int .i64 h.b.y]
    have HB14 := Lib.hid (hb3.alloc hb3.size (.cells #[.int .i64 h.a.x, .int .i64 h.a.y, .int .i64 h.b.x, .int .i64 h.b.y] 64))
    have HB4 := Lib.hid (HB1.out.trans (HB14.out.mono HB1.out.size))
    clear hq hj hlj hb3
    go_upto_region 7 with fail
    clear x0 x1 x2 x3 hbl hcap hcx s1 l1 hj0 hlj'
    generalize w3.alloc (.cells #[.int .i64 h.a.x, .int .i64 h.a.y, .int .i64 h.b.x, .int .i64 h.b.y] 64) = w4 at *
    obtain ⟨x0, x1, x2, x3⟩ := (show w4.cell? ⟨w3.heap.size, 0, none⟩ = some (.int .i64 h.a.x) ∧ w4.cell? ⟨w3.heap.size, 1, none⟩ = some (.int .i64 h.a.y) ∧ w4.cell? ⟨w3.heap.size, 2, none⟩ = some (.int .i64 h.b.x) ∧ w4.cell? ⟨w3.heap.size, 3, none⟩ = some (.int .i64 h.b.y) from ⟨kH.cell 0, kH.cell 1, kH.cell 2, kH.cell 3⟩)
    have lH := kH.lt
    clear kH
    go_wp2_with fail
    refine (long_any _ _).mono ?_
    rintro e w5 ⟨⟨b0, rfl⟩, rfl⟩
    cases b0 with
    | true =>
      go_wp2_with fail
      go_ret
      exact ⟨⟨_, rfl⟩, HB4.out⟩
    | false =>
    go_wp2_with fail
    refine (long_any _ _).mono ?_
    rintro e w5 ⟨⟨b1, rfl⟩, rfl⟩
    cases b1 with
    | true =>
      go_wp2_with fail
      go_ret
      exact ⟨⟨_, rfl⟩, HB4.out⟩
    | false =>
    go_wp2_with fail
    refine (long_any _ _).mono ?_
    rintro e w5 ⟨⟨b2, rfl⟩, rfl⟩
    cases b2 with
    | true =>
      go_wp2_with fail
      go_ret
      exact ⟨⟨_, rfl⟩, HB4.out⟩
    | false =>
    go_wp2_with fail
    refine (long_any _ _).mono ?_
    rintro e w5 ⟨⟨b3, rfl⟩, rfl⟩
    cases b3 with
    | true =>
      go_wp2_with fail
      go_ret
      exact ⟨⟨_, rfl⟩, HB4.out⟩
    | false =>
    go_wp2_with fail
    exact ⟨⟨j + 1, by have := HLJ.out; omega, rfl, HB14.out⟩, by have := HLJ.out; simp [intOf]; omega⟩
  · have hlj' : ¬ (j : Int) < (S.hs.length : Int) := by omega
    have HB3 := Lib.hid (HB1.out.trans (hb3.mono HB1.out.size))
    clear hlj hj hb3
    go_wp2_with fail
    go_ret
    exact ⟨⟨_, rfl⟩, HB3.out⟩
theorem far_any (p q : Pnt) (hp : pointB p = true) (hq : pointB q = true) (w : World) :
    Calls Tryd.prog 25 #[.agg #[.int .i64 p.x, .int .i64 p.y], .agg #[.int .i64 q.x, .int .i64 q.y]] w fun e w' => e = .returned (.int .i64 (distM p q)) ∧ Below w.heap.size w w' := by
  obtain ⟨a, b⟩ := p
  obtain ⟨c, d⟩ := q
  obtain ⟨⟨h1, h2⟩, h3, h4⟩ := pointB_iff.1 hp
  obtain ⟨⟨h5, h6⟩, h7, h8⟩ := pointB_iff.1 hq
  clear hp hq
  simp only at h1 h2 h3 h4 h5 h6 h7 h8
  have w1 : IntKind.i64.wrap (a - c) = a - c := by rw [IntKind.wrap_i64]; omega
  have w2 : IntKind.i64.wrap (c - a) = c - a := by rw [IntKind.wrap_i64]; omega
  have w3 : IntKind.i64.wrap (b - d) = b - d := by rw [IntKind.wrap_i64]; omega
  have w4 : IntKind.i64.wrap (d - b) = d - b := by rw [IntKind.wrap_i64]; omega
  have H0 := Lib.hid (And.intro (And.intro h1 h2) (And.intro (And.intro h3 h4) (And.intro (And.intro h5 h6) (And.intro h7 h8))))
  clear h1 h2 h3 h4 h5 h6 h7 h8
  go_enter Tryd.func25, Tryd.ntmps25
  go_wp2
  all_goals go_ret
  all_goals refine ⟨?_, ((Below.refl _ _).alloc (Nat.le_refl _) _).alloc (by simp) _⟩
  all_goals
    obtain ⟨⟨h1, h2⟩, ⟨h3, h4⟩, ⟨h5, h6⟩, h7, h8⟩ := H0.out
    refine ret_int (k := .i64) ?_
    refine (w64 (by omega) (by omega)).trans ?_
    simp only [distM]
    omega
end

open Go.ChangeShapes Go.WideShapes Go.ChangeAt Go.RowKit Go.Deep
theorem cells_pt : Tryd.prog.cellsOf 45 = 2 := by kernel_rfl
theorem cells_box : Tryd.prog.cellsOf 64 = 4 := by kernel_rfl
theorem cells_mark : Tryd.prog.cellsOf 61 = 4 := by kernel_rfl
theorem cells_area : Tryd.prog.cellsOf 25 = 2 := by kernel_rfl
theorem cells_pts : Tryd.prog.cellsOf 22 = 1 := by kernel_rfl
theorem cells_boxes : Tryd.prog.cellsOf 23 = 1 := by kernel_rfl
theorem cells_marks : Tryd.prog.cellsOf 28 = 1 := by kernel_rfl
theorem cells_skin : Tryd.prog.cellsOf 30 = 6 := by kernel_rfl
theorem cellTypes_skin : Tryd.prog.cellTypes Tryd.prog.depth 30 = some [22, 23, 3, 3, 3, 28] := by kernel_rfl

section
variable {H : Type} {enc : TypeId × Value → H} {W : World} {base : Nat} {sp : Nat → Bool} {held : Bool}
theorem list_of {α : Type} {n : Nat} {p : Nat → α → Prop} (h : ∀ i, i < n → ∃ x, p i x) : ∃ l : List α, l.length = n ∧ ∀ j x, l[j]? = some x → p j x := by
  induction n with
  | zero => exact ⟨[], rfl, fun j x hx => by simp at hx⟩
  | succ n ih =>
    obtain ⟨l, hl, hp⟩ := ih fun i hi => h i (by omega)
    obtain ⟨x, hx⟩ := h n (by omega)
    refine ⟨l ++ [x], by simp [hl], fun j y hy => ?_⟩
    by_cases hj : j < n
    · rw [List.getElem?_append_left (by omega)] at hy
      exact hp j y hy
    · by_cases hjn : j = n
      · subst hjn
        rw [← hl, List.getElem?_append_right (Nat.le_refl _)] at hy
        obtain rfl : x = y := by simpa using hy
        exact hx
      · rw [List.getElem?_eq_none (by simp; omega)] at hy
        cases hy

set_option maxRecDepth 100000 in
/-- Where a slice's address lies. -/
theorem slice_place {t e : TypeId} {a : Addr} {len cap b0 : Nat} (ht : Tryd.prog.underlying t = some (.slice e)) (h : Cell.okWide Tryd.prog W .any b0 t (.slice (some a) len cap)) : a.spot = none ∧ a.block < W.heap.size := by
  unfold Cell.okWide Cell.ok at h
  rw [ht] at h
  obtain ⟨_, _, _, h2, row, cells, h3, _⟩ := h
  refine ⟨h2, ?_⟩
  unfold World.shape? at h3
  rcases Nat.lt_or_ge a.block W.heap.size with hlt | hge
  · exact hlt
  · rw [Array.getElem?_eq_none hge] at h3
    cases h3

set_option maxRecDepth 100000 in
theorem open_pt' {n : Nat} {cs : List Value} {x : DataW H × List MemPlace} (h : DataW.trod enc Tryd.prog W base sp held n 45 cs = some x) : ∃ a b : Int, cs = [.int .i64 a, .int .i64 b] := by
  obtain ⟨xs, n', _, hx, hcl, hlen, hf⟩ := DataW.trod_struct Tryd.underlying45 h
  rw [cells_pt] at hcl
  match cs, xs, hcl, hlen with
  | [a, b], [y0, y1], _, _ =>
    have h0 := trod_at hf 0 3 0 1 rfl cells_int
    have h1 := trod_at hf 1 3 1 1 rfl cells_int
    simp only [List.drop, List.take] at h0 h1
    obtain ⟨p, e0, f0, _⟩ := DataW.trod_int Tryd.underlying3 h0
    obtain ⟨q, e1, f1, _⟩ := DataW.trod_int Tryd.underlying3 h1
    simp only [List.cons.injEq, and_true] at e0 e1
    exact ⟨p, q, by rw [e0, e1]⟩
set_option maxRecDepth 100000 in
theorem open_pt {v : Value} {d : DataW H} {ps : List MemPlace} {b0 : Nat} (hv : Value.okWide Tryd.prog W .any b0 45 v) (h : DataW.Trod enc Tryd.prog W base sp held 45 v d ps) : ∃ p : Pnt, v = .agg #[.int .i64 p.x, .int .i64 p.y] := by
  obtain ⟨fuel, hf⟩ := h
  obtain ⟨cs, rfl, hsz⟩ := okWide_struct Tryd.underlying45 hv
  obtain ⟨a, b, hp⟩ := open_pt' hf
  obtain ⟨l⟩ := cs
  have : l = [.int .i64 a, .int .i64 b] := by simpa [Value.cells] using hp
  subst this
  exact ⟨⟨a, b⟩, rfl⟩
set_option maxRecDepth 100000 in
theorem open_box' {n : Nat} {cs : List Value} {x : DataW H × List MemPlace} (h : DataW.trod enc Tryd.prog W base sp held n 64 cs = some x) : ∃ F : Hol, cs = (holC F).toList := by
  obtain ⟨xs, n', _, hx, hcl, hlen, hf⟩ := DataW.trod_struct Tryd.underlying64 h
  rw [cells_box] at hcl
  match cs, xs, hcl, hlen with
  | [c0, c1, c2, c3], [y0, y1], _, _ =>
    have h0 := trod_at hf 0 45 0 2 rfl cells_pt
    have h1 := trod_at hf 1 45 2 2 rfl cells_pt
    simp only [List.drop, List.take] at h0 h1
    obtain ⟨a, b, e0⟩ := open_pt' h0
    obtain ⟨c, d, e1⟩ := open_pt' h1
    simp only [List.cons.injEq, and_true] at e0 e1
    exact ⟨⟨⟨a, b⟩, ⟨c, d⟩⟩, by simp [e0.1, e0.2, e1.1, e1.2]⟩
set_option maxRecDepth 100000 in
theorem open_mark' {n : Nat} {cs : List Value} {x : DataW H × List MemPlace} (h : DataW.trod enc Tryd.prog W base sp held n 61 cs = some x) : ∃ F : Mrk, cs = (mrkC F).toList := by
  obtain ⟨xs, n', _, hx, hcl, hlen, hf⟩ := DataW.trod_struct Tryd.underlying61 h
  rw [cells_mark] at hcl
  match cs, xs, hcl, hlen with
  | [c0, c1, c2, c3], [y0, y1], _, _ =>
    have h0 := trod_at hf 0 45 0 2 rfl cells_pt
    have h1 := trod_at hf 1 27 2 2 rfl cells_span
    simp only [List.drop, List.take] at h0 h1
    obtain ⟨a, b, e0⟩ := open_pt' h0
    obtain ⟨c, d, e1, _⟩ := open_span h1
    simp only [List.cons.injEq, and_true] at e0 e1
    exact ⟨⟨⟨a, b⟩, ⟨c, d⟩⟩, by simp [e0.1, e0.2, e1.1, e1.2]⟩
set_option maxRecDepth 100000 in
theorem open_pts {n b0 : Nat} {v : Value} {x : DataW H × List MemPlace} (hv : Cell.okWide Tryd.prog W .any b0 22 v) (h : DataW.trod enc Tryd.prog W base sp held n 22 [v] = some x) :
    ∃ a c l, v = .slice a (l : List Pnt).length c ∧ IsPts W v l := by
  rcases open_slice Tryd.underlying22 h with ⟨hcs, _⟩ | ⟨a, len, cap, m, n', D, Pl, hcs, hb, hl, hm, hmm, _, hx⟩
  · simp only [List.cons.injEq, and_true] at hcs
    subst hcs
    exact ⟨none, 0, [], rfl, .inl ⟨⟨_, _, rfl⟩, rfl⟩⟩
  · simp only [List.cons.injEq, and_true] at hcs
    subst hcs
    obtain ⟨hs, hblk⟩ := slice_place Tryd.underlying22 hv
    obtain ⟨b, off, spot⟩ := a
    simp only [] at hs hblk
    subst hs
    have hlm : len ≤ m := by rw [hmm]; split <;> omega
    obtain ⟨l, hll, hp⟩ := list_of (p := fun i (F : Pnt) => W.cell? ⟨b, off + i * 2, none⟩ = some (.int .i64 F.x) ∧ W.cell? ⟨b, off + i * 2 + 1, none⟩ = some (.int .i64 F.y)) (n := len) fun i hi => by
      obtain ⟨cs', h1, h2⟩ := hx i (by omega)
      rw [cells_pt] at h1
      obtain ⟨_, _, hcell⟩ := World.cells?_some h1
      obtain ⟨p, q, rfl⟩ := open_pt' h2
      have c : ∀ k, k < 2 → W.cell? ⟨b, off + i * 2 + k, none⟩ = ([Value.int .i64 p, .int .i64 q])[k]? := fun k hk => by have := hcell k hk; rw [add_add, add_plain, ← Nat.add_assoc] at this; exact this
      exact ⟨⟨p, q⟩, c 0 (by omega), c 1 (by omega)⟩
    subst hll
    unfold maxLen at hm
    exact ⟨_, cap, l, rfl, .inr ⟨b, off, cap, rfl, hblk, hl, by omega, hp⟩⟩
set_option maxRecDepth 100000 in
theorem open_boxes {n b0 : Nat} {v : Value} {x : DataW H × List MemPlace} (hv : Cell.okWide Tryd.prog W .any b0 23 v) (h : DataW.trod enc Tryd.prog W base sp held n 23 [v] = some x) :
    ∃ a c l, v = .slice a (l : List Hol).length c ∧ IsRow4 holC W a c l := by
  rcases open_slice Tryd.underlying23 h with ⟨hcs, _⟩ | ⟨a, len, cap, m, n', D, Pl, hcs, hb, hl, hm, hmm, _, hx⟩
  · simp only [List.cons.injEq, and_true] at hcs
    subst hcs
    exact ⟨none, 0, [], rfl, .inl rfl⟩
  · simp only [List.cons.injEq, and_true] at hcs
    subst hcs
    obtain ⟨hs, hblk⟩ := slice_place Tryd.underlying23 hv
    obtain ⟨b, off, spot⟩ := a
    simp only [] at hs hblk
    subst hs
    have hlm : len ≤ m := by rw [hmm]; split <;> omega
    obtain ⟨l, hll, hp⟩ := list_of (p := fun i (F : Hol) => ∀ k, k < 4 → W.cell? ⟨b, off + i * 4 + k, none⟩ = (holC F)[k]?) (n := len) fun i hi => by
      obtain ⟨cs', h1, h2⟩ := hx i (by omega)
      rw [cells_box] at h1
      obtain ⟨_, _, hcell⟩ := World.cells?_some h1
      obtain ⟨F, rfl⟩ := open_box' h2
      exact ⟨F, fun k hk => by
        have := hcell k hk
        rw [add_add, add_plain, ← Nat.add_assoc] at this
        rw [this, Array.getElem?_toList]⟩
    subst hll
    unfold maxLen at hm
    exact ⟨_, cap, l, rfl, .inr ⟨b, off, rfl, hblk, hl, by omega, hp⟩⟩
set_option maxRecDepth 100000 in
theorem open_marks {n b0 : Nat} {v : Value} {x : DataW H × List MemPlace} (hv : Cell.okWide Tryd.prog W .any b0 28 v) (h : DataW.trod enc Tryd.prog W base sp held n 28 [v] = some x) :
    ∃ a c l, v = .slice a (l : List Mrk).length c ∧ IsRow4 mrkC W a c l := by
  rcases open_slice Tryd.underlying28 h with ⟨hcs, _⟩ | ⟨a, len, cap, m, n', D, Pl, hcs, hb, hl, hm, hmm, _, hx⟩
  · simp only [List.cons.injEq, and_true] at hcs
    subst hcs
    exact ⟨none, 0, [], rfl, .inl rfl⟩
  · simp only [List.cons.injEq, and_true] at hcs
    subst hcs
    obtain ⟨hs, hblk⟩ := slice_place Tryd.underlying28 hv
    obtain ⟨b, off, spot⟩ := a
    simp only [] at hs hblk
    subst hs
    have hlm : len ≤ m := by rw [hmm]; split <;> omega
    obtain ⟨l, hll, hp⟩ := list_of (p := fun i (F : Mrk) => ∀ k, k < 4 → W.cell? ⟨b, off + i * 4 + k, none⟩ = (mrkC F)[k]?) (n := len) fun i hi => by
      obtain ⟨cs', h1, h2⟩ := hx i (by omega)
      rw [cells_mark] at h1
      obtain ⟨_, _, hcell⟩ := World.cells?_some h1
      obtain ⟨F, rfl⟩ := open_mark' h2
      exact ⟨F, fun k hk => by
        have := hcell k hk
        rw [add_add, add_plain, ← Nat.add_assoc] at this
        rw [this, Array.getElem?_toList]⟩
    subst hll
    unfold maxLen at hm
    exact ⟨_, cap, l, rfl, .inr ⟨b, off, rfl, hblk, hl, by omega, hp⟩⟩
set_option maxRecDepth 100000 in
/-- **An argument of type api.Skin is a skin in memory.** -/
theorem open_skin {b0 : Nat} {v : Value} {d : DataW H} {ps : List MemPlace} (hv : Value.okWide Tryd.prog W .any b0 30 v) (h : DataW.Trod enc Tryd.prog W base sp held 30 v d ps) :
    ∃ S : Skn, v = .agg #[.slice S.pa S.pts.length S.pc, .slice S.ha S.hs.length S.hc, .int .i64 S.steep, .int .i64 S.th.lo, .int .i64 S.th.hi, .slice S.ma S.ms.length S.mc] ∧ IsSkn W S := by
  obtain ⟨fuel, hf0⟩ := h
  unfold Value.okWide at hv
  rw [Tryd.underlying30] at hv
  obtain ⟨cs, rfl, hsz, ts, hts, _, hall⟩ := hv
  rw [cells_skin] at hsz
  rw [cellTypes_skin] at hts
  obtain rfl := Option.some.inj hts
  obtain ⟨l⟩ := cs
  match l, hsz with
  | [v0, v1, v2, v3, v4, v5], _ =>
    obtain ⟨u0, hu0, k0⟩ := hall 0 v0 rfl
    obtain ⟨u1, hu1, k1⟩ := hall 1 v1 rfl
    obtain ⟨u5, hu5, k5⟩ := hall 5 v5 rfl
    obtain rfl : 22 = u0 := by simpa using hu0
    obtain rfl : 23 = u1 := by simpa using hu1
    obtain rfl : 28 = u5 := by simpa using hu5
    obtain ⟨xs, n', _, hx, hcl, hlen, hf⟩ := DataW.trod_struct Tryd.underlying30 hf0
    match xs, hlen with
    | [y0, y1, y2, y3], _ =>
      simp only [Value.cells] at hf
      have h0 := trod_at hf 0 25 0 2 rfl cells_area
      have h1 := trod_at hf 1 3 2 1 rfl cells_int
      have h2 := trod_at hf 2 27 3 2 rfl cells_span
      have h3 := trod_at hf 3 28 5 1 rfl cells_marks
      simp only [List.drop, List.take] at h0 h1 h2 h3
      obtain ⟨xa, na, _, _, hcla, hlena, hfa⟩ := DataW.trod_struct Tryd.underlying25 h0
      match xa, hlena with
      | [z0, z1], _ =>
        have a0 := trod_at hfa 0 22 0 1 rfl cells_pts
        have a1 := trod_at hfa 1 23 1 1 rfl cells_boxes
        simp only [List.drop, List.take] at a0 a1
        obtain ⟨pa, pc, pts, rfl, hp⟩ := open_pts k0 a0
        obtain ⟨ha, hc, hs, rfl, hh⟩ := open_boxes k1 a1
        obtain ⟨st, e1, _, _⟩ := DataW.trod_int Tryd.underlying3 h1
        obtain ⟨lo, hi, e2, _⟩ := open_span h2
        obtain ⟨ma, mc, ms, rfl, hm⟩ := open_marks k5 h3
        simp only [List.cons.injEq, and_true] at e1 e2
        obtain ⟨rfl, rfl⟩ := e2
        subst e1
        exact ⟨⟨pa, pc, pts, ha, hc, hs, st, ⟨lo, hi⟩, ma, mc, ms⟩, rfl, hp, hh, hm⟩
end
end Go.Proofs.YtoigihmgjacbjaaDoor
