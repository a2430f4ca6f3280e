/- Rows that are made by appends; the specification's New. -/
import Derived.Test.YtejobijmjaccgaaGI
import Derived.Test.YtejobijmjaccgaaFP
import Derived.Deep.AppendLies
namespace Go.Proofs.Ytejobijmjaccgaa
open Go.RowKit

theorem rowOf_own' (a : Option Addr) (l c : Nat) : (Value.slice a l c).ownBlock = a.map (·.block) := by cases a <;> rfl
theorem flat_at {α : Type} (f : α → List Value) (n : Nat) (hf : ∀ x, (f x).length = n) (l : List α) : ∀ (j i : Nat) (x : α), l[j]? = some x → i < n → (l.flatMap f)[j * n + i]? = (f x)[i]? := by
  induction l with
  | nil => intro j i x h _; simp at h
  | cons y l ih =>
    intro j i x h hi
    cases j with
    | zero =>
      obtain rfl : y = x := by simpa using h
      rw [List.flatMap_cons, List.getElem?_append_left (by rw [hf]; omega)]
      simp
    | succ j =>
      rw [List.flatMap_cons, List.getElem?_append_right (by rw [hf, Nat.succ_mul]; omega), hf, show (j + 1) * n + i - n = j * n + i by rw [Nat.succ_mul]; omega]
      exact ih j i x (by simpa using h) hi
/-- The cells of a row that was made by appends of whole elements. -/
theorem row_at {α : Type} (f : α → List Value) (n : Nat) (hf : ∀ x, (f x).length = n) {w : World} {base : Nat} {t : TypeId} {v : Value} {l : List α} (h : w.ownsRow base t n v l.length (l.flatMap f)) :
    (v = .slice none 0 0 ∧ l = []) ∨ ∃ g cap, v = .slice (some ⟨g, 0, none⟩) l.length cap ∧ base ≤ g ∧ g < w.heap.size ∧ l.length ≤ cap ∧ cap ≤ 9223372036854775807 ∧ ∀ j x, l[j]? = some x → ∀ i, i < n → w.cell? ⟨g, j * n + i, none⟩ = (f x)[i]? := by
  rcases h.2 with ⟨rfl, h0⟩ | ⟨g, cap, cur, hv, hb, hg, h1, h2, h3, h4⟩
  · exact .inl ⟨rfl, List.eq_nil_of_length_eq_zero h0⟩
  · refine .inr ⟨g, cap, hv, hb, (Array.getElem?_eq_some_iff.1 hg).1, h1, by unfold maxLen at h2; omega, fun j x hj i hi => ?_⟩
    have hjl : j < l.length := (List.getElem?_eq_some_iff.1 hj).1
    have hjn : j * n + i < l.length * n := by
      have := Nat.mul_le_mul_right n (Nat.succ_le_of_lt hjl)
      rw [Nat.succ_mul] at this
      omega
    have e1 : w.cell? ⟨g, j * n + i, none⟩ = cur[j * n + i]? := by simp [World.cell?, hg]
    have e2 : cur[j * n + i]? = (cur.toList.take (l.length * n))[j * n + i]? := by
      rw [List.getElem?_take_of_lt hjn]
      simp
    rw [e1, e2, h4, flat_at f n hf l j i x hj hi]
def cellsI (x : Int) : List Value := [.int .i64 x]
def cellsPrt (p : Prt) : List Value := [.int .i64 p.plot, .int .i64 p.loads]
theorem isNums_own {w : World} {base c : Nat} {t : TypeId} {a : Option Addr} {l : List Int} (h : w.ownsRow base t 1 (.slice a l.length c) l.length (l.flatMap cellsI)) : IsNums w a c l := by
  rcases row_at cellsI 1 (fun _ => rfl) h with ⟨e, rfl⟩ | ⟨g, cap, hv, _, hg, h1, h2, key⟩
  · obtain ⟨rfl, _, rfl⟩ := slice_inj e
    exact .inl rfl
  · obtain ⟨rfl, _, rfl⟩ := slice_inj hv
    refine .inr ⟨g, 0, rfl, hg, h1, h2, fun j x hj => ?_⟩
    have := key j x hj 0 (by omega)
    show w.cell? ⟨g, 0 + j * 1, none⟩ = _
    rw [Nat.zero_add]
    exact this
theorem isPrts_own {w : World} {base c : Nat} {t : TypeId} {a : Option Addr} {l : List Prt} (h : w.ownsRow base t 2 (.slice a l.length c) l.length (l.flatMap cellsPrt)) : IsPrts w a c l := by
  rcases row_at cellsPrt 2 (fun _ => rfl) h with ⟨e, rfl⟩ | ⟨g, cap, hv, _, hg, h1, h2, key⟩
  · obtain ⟨rfl, _, rfl⟩ := slice_inj e
    exact .inl rfl
  · obtain ⟨rfl, _, rfl⟩ := slice_inj hv
    refine .inr ⟨g, 0, rfl, hg, h1, h2, fun j x hj => ?_⟩
    have k0 := key j x hj 0 (by omega)
    have k1 := key j x hj 1 (by omega)
    refine ⟨?_, ?_⟩
    · show w.cell? ⟨g, 0 + j * 2, none⟩ = _
      rw [Nat.zero_add]
      exact k0
    · show w.cell? ⟨g, 0 + j * 2 + 1, none⟩ = _
      rw [Nat.zero_add]
      exact k1
theorem own_below {w w' : World} {base : Nat} {e : TypeId} {size : Nat} {v : Value} {n : Nat} {xs : List Value} (h : w.ownsRow base e size v n xs) (hb : Below w.heap.size w w') : w'.ownsRow base e size v n xs :=
  h.kept (row := none) ⟨hb.os, hb.tape, hb.output, hb.size, fun k hk _ => hb.block k hk⟩ (by cases v.ownBlock <;> simp)

set_option maxRecDepth 100000 in
set_option maxHeartbeats 8000000 in
theorem refNew_any (F : Frm) (w : World) (hF : IsFarm w F) :
    Calls Try.prog 9 #[.agg #[.slice F.pa F.ps.length F.pc, .int .i64 F.dry]] w fun e w' => NewSaid F e w' ∧ Below w.heap.size w w' := by
  obtain ⟨i0, hi, hz0, hz1, hz2⟩ := info_parts info_int'
  have HF := Lib.hid hF
  clear hF
  have kF := (Blk.new w 24 (frmC F)).alloc (.cells #[.int .i64 0, .slice none 0 0, .slice none 0 0, .slice none 0 0, .slice none 0 0, .slice none 0 0] 29)
  have kR := Blk.new (w.alloc (.cells (frmC F) 24)) 29 #[.int .i64 0, .slice none 0 0, .slice none 0 0, .slice none 0 0, .slice none 0 0, .slice none 0 0]
  have hB : Below w.heap.size w ((w.alloc (.cells (frmC F) 24)).alloc (.cells #[.int .i64 0, .slice none 0 0, .slice none 0 0, .slice none 0 0, .slice none 0 0, .slice none 0 0] 29)) := ((Below.refl _ w).alloc (by simp) _).alloc (by simp) _
  simp only [World.size_alloc] at kR
  unfold frmC at kF kR hB
  go_enter Try.func9, Try.ntmps9
  go_upto_region 1 with fail
  generalize ((w.alloc (.cells #[.slice F.pa F.ps.length F.pc, .int .i64 F.dry] 24)).alloc (.cells #[.int .i64 0, .slice none 0 0, .slice none 0 0, .slice none 0 0, .slice none 0 0, .slice none 0 0] 29)) = w1 at *
  have hltF := kF.lt
  obtain ⟨f0, f1⟩ := frm_cells kF
  go_wp2_with fail
  refine (refCheck_any F _ (HF.out.below hB)).mono ?_
  rintro e w2 ⟨rfl, hb⟩
  have hB1 := hB.trans (hb.mono hB.size)
  have kF1 := kF.belowS hb
  have kR1 := kR.belowS hb
  clear f0 f1 hltF hb kF kR hB
  by_cases hE : checkE F = 0
  · obtain ⟨hn, _⟩ := checkE_ok hE
    have HE := Lib.hid hE
    rw [hE]
    have z1 : ((0 : Int) == 0) = true := rfl
    have hw2 := hB1.size
    have hR2 : w.heap.size + 1 < w2.heap.size := kR1.lt
    have kD := Blk.new w2 29 #[.int .i64 0, .slice none 0 0, .slice none 0 0, .slice none 0 0, .slice none 0 0, .slice none 0 0]
    have kF2 := kF1.alloc (.cells #[.int .i64 0, .slice none 0 0, .slice none 0 0, .slice none 0 0, .slice none 0 0, .slice none 0 0] 29)
    have kR2 := kR1.alloc (.cells #[.int .i64 0, .slice none 0 0, .slice none 0 0, .slice none 0 0, .slice none 0 0, .slice none 0 0] 29)
    have hB2 := hB1.alloc hB1.size (.cells #[.int .i64 0, .slice none 0 0, .slice none 0 0, .slice none 0 0, .slice none 0 0, .slice none 0 0] 29)
    clear hE kF1 kR1 hB1
    go_upto_region 5 with fail
    generalize w2.alloc (.cells #[.int .i64 0, .slice none 0 0, .slice none 0 0, .slice none 0 0, .slice none 0 0, .slice none 0 0] 29) = w3 at *
    go_wp2_with fail
    go_loopw [6] (fun i wr => ∃ (j : Nat) (a1 : Option Addr) (c1 : Nat) (a2 : Option Addr) (c2 : Nat), j ≤ F.ps.length ∧ i = .int .i64 j ∧ wr.ownsRow (w2.heap.size + 1) 3 1 (.slice a1 j c1) j (List.replicate j (.int .i64 (-1))) ∧ wr.ownsRow (w2.heap.size + 1) 3 1 (.slice a2 j c2) j (List.replicate j (.int .i64 0)) ∧
      (∀ g, a1.map (·.block) = some g → a2.map (·.block) ≠ some g) ∧ Blk wr w2.heap.size #[.int .i64 0, .slice a1 j c1, .slice a2 j c2, .slice none 0 0, .slice none 0 0, .slice none 0 0] 29 ∧ Blk wr w.heap.size #[.slice F.pa F.ps.length F.pc, .int .i64 F.dry] 24 ∧ Blk wr (w.heap.size + 1) #[.int .i64 0, .slice none 0 0, .slice none 0 0, .slice none 0 0, .slice none 0 0, .slice none 0 0] 29 ∧ Below w.heap.size w wr) (fun i _ => F.ps.length - (intOf i).toNat)
    case atStart => exact ⟨0, none, 0, none, 0, Nat.zero_le _, rfl, World.ownsRow_nil _ _ _ _, World.ownsRow_nil _ _ _ _, (fun g h => by cases h), kD, kF2, kR2, hB2⟩
    case round =>
      obtain ⟨j, a1, c1, a2, c2, hj, rfl, h1, h2, hap, gD, gF, gR, gb⟩ := hrel
      clear kD kF2 kR2 hB2
      obtain ⟨f0, f1⟩ := frm_cells gF
      have d1 := gD.cell 1
      have lD := gD.lt
      have lF := gF.lt
      have lR := gR.lt
      simp only [List.getElem?_toArray, List.getElem?_cons_zero, List.getElem?_cons_succ] at d1
      by_cases hlj : j < F.ps.length
      · have hj0 : (0 : Int) ≤ (j : Int) := Int.natCast_nonneg _
        have hj1 : (j : Int) < (F.ps.length : Int) := by omega
        have hmx : j + 1 ≤ maxLen := by unfold maxLen; omega
        have hr1 : ∀ k, a1.map (·.block) = some k → w2.heap.size + 1 ≤ k ∧ k < wr.heap.size := fun k hk => h1.lt k (by rw [rowOf_own']; exact hk)
        have hr2 : ∀ k, a2.map (·.block) = some k → w2.heap.size + 1 ≤ k ∧ k < wr.heap.size := fun k hk => h2.lt k (by rw [rowOf_own']; exact hk)
        have kE := Blk.new wr 3 #[.int .i64 (-1)]
        have hneD : some w2.heap.size ≠ (Value.slice a1 j c1).ownBlock := fun e => by rw [rowOf_own'] at e; have := (hr1 _ e.symm).1; omega
        have hneF : some w.heap.size ≠ (Value.slice a1 j c1).ownBlock := fun e => by rw [rowOf_own'] at e; have := (hr1 _ e.symm).1; omega
        have hneR : some (w.heap.size + 1) ≠ (Value.slice a1 j c1).ownBlock := fun e => by rw [rowOf_own'] at e; have := (hr1 _ e.symm).1; omega
        have HAP := Lib.hid hap
        have HR1 := Lib.hid hr1
        have HR2 := Lib.hid hr2
        have H2 := Lib.hid h2
        clear hap hr1 hr2 h2
        go_upto_region 9 with (at_builtin; refine wpList_append_lies _ rfl _ _ 25 rfl (w2.heap.size + 1) 3 i0 (.int .i64 0) 1 8 Try.underlying25 hi hz0 hz1 hz2 rfl (by decide) (.slice a1 j c1) j _ rfl (h1.alloc _) ⟨wr.heap.size, 0, none⟩ 1 1 [.int .i64 (-1)] rfl rfl (World.news_of_block kE) (by simp [Value.oneCell']) (by decide) hmx (by omega) (by simp; omega) _ rfl ?_; intro g cap w6 hown6 hgrow hat hlt6; have HOWN6 := Lib.hid hown6; have HGR := Lib.hid hgrow; have HAT := Lib.hid hat; have kC6 := (gD.alloc (.cells #[.int .i64 (-1)] 3)).kept hgrow hneD; have z6 := kC6.cell 1; have z7 := kC6.frozen 1; simp only [List.getElem?_toArray, List.getElem?_cons_zero, List.getElem?_cons_succ] at z6; clear hown6 hgrow hat)
        have hap7 : a2.map (·.block) ≠ some g := fun e => by
          rcases HAT.out with h | h
          · rw [rowOf_own'] at h; exact HAP.out g h e
          · have := (HR2.out g e).2; simp at h; omega
        have own1 : (w6.setCell ⟨w2.heap.size, 1, none⟩ (.slice (some ⟨g, 0, none⟩) (j + 1) cap)).ownsRow (w2.heap.size + 1) 3 1 (.slice (some ⟨g, 0, none⟩) (j + 1) cap) (j + 1) (List.replicate j (.int .i64 (-1)) ++ [.int .i64 (-1)]) := ownsRow_setCell_below HOWN6.out (a := ⟨w2.heap.size, 1, none⟩) (Nat.lt_succ_self _) _
        have own2 : (w6.setCell ⟨w2.heap.size, 1, none⟩ (.slice (some ⟨g, 0, none⟩) (j + 1) cap)).ownsRow (w2.heap.size + 1) 3 1 (.slice a2 j c2) j (List.replicate j (.int .i64 0)) := ownsRow_setCell_below ((H2.out.alloc (.cells #[.int .i64 (-1)] 3)).kept HGR.out (by
          rw [rowOf_own', rowOf_own']
          cases h : a2.map (·.block) with
          | none => exact .inl rfl
          | some k => exact .inr fun e => HAP.out k e.symm h)) (a := ⟨w2.heap.size, 1, none⟩) (Nat.lt_succ_self _) _
        have gD7 := kC6.set 1 (.slice (some ⟨g, 0, none⟩) (j + 1) cap)
        have gF7 := ((gF.alloc (.cells #[.int .i64 (-1)] 3)).kept HGR.out hneF).other (B' := w2.heap.size) (i := 1) (by omega) (.slice (some ⟨g, 0, none⟩) (j + 1) cap)
        have gR7 := ((gR.alloc (.cells #[.int .i64 (-1)] 3)).kept HGR.out hneR).other (B' := w2.heap.size) (i := 1) (by omega) (.slice (some ⟨g, 0, none⟩) (j + 1) cap)
        have gb7 := ((gb.alloc gb.size (.cells #[.int .i64 (-1)] 3)).grown HGR.out (by simp; exact Nat.le_succ_of_le gb.size) (fun q e => by rw [rowOf_own'] at e; have := (HR1.out q e).1; omega)).setCell (p := ⟨w2.heap.size, 1, none⟩) hw2 (.slice (some ⟨g, 0, none⟩) (j + 1) cap)
        have gD7' : Blk (w6.setCell ⟨w2.heap.size, 1, none⟩ (.slice (some ⟨g, 0, none⟩) (j + 1) cap)) w2.heap.size #[.int .i64 0, .slice (some ⟨g, 0, none⟩) (j + 1) cap, .slice a2 j c2, .slice none 0 0, .slice none 0 0, .slice none 0 0] 29 := gD7
        have hsz7 : wr.heap.size ≤ w6.heap.size := Nat.le_trans (Nat.le_succ _) (by have := HGR.out.size; simpa using this)
        have hsz8 : (w6.setCell ⟨w2.heap.size, 1, none⟩ (.slice (some ⟨g, 0, none⟩) (j + 1) cap)).heap.size = w6.heap.size := by simp
        rw [← hsz8] at hsz7 hlt6
        generalize (w6.setCell ⟨w2.heap.size, 1, none⟩ (.slice (some ⟨g, 0, none⟩) (j + 1) cap)) = w7 at *
        have HA7 := Lib.hid hap7
        clear gD gF gR gb h1 d1 lD lF lR f0 f1 kE hneD hneF hneR z6 z7 kC6 gD7 hap7 hsz8
        have d2 := gD7'.cell 2
        have lD := gD7'.lt
        simp only [List.getElem?_toArray, List.getElem?_cons_zero, List.getElem?_cons_succ] at d2
        have hr2 : ∀ k, a2.map (·.block) = some k → w2.heap.size + 1 ≤ k ∧ k < w7.heap.size := fun k hk => own2.lt k (by rw [rowOf_own']; exact hk)
        have kE := Blk.new w7 3 #[.int .i64 0]
        have hneD : some w2.heap.size ≠ (Value.slice a2 j c2).ownBlock := fun e => by rw [rowOf_own'] at e; have := (hr2 _ e.symm).1; omega
        have hneF : some w.heap.size ≠ (Value.slice a2 j c2).ownBlock := fun e => by rw [rowOf_own'] at e; have := (hr2 _ e.symm).1; omega
        have hneR : some (w.heap.size + 1) ≠ (Value.slice a2 j c2).ownBlock := fun e => by rw [rowOf_own'] at e; have := (hr2 _ e.symm).1; omega
        have HQ2 := Lib.hid hr2
        have HO1 := Lib.hid own1
        clear hr2 own1
        go_wp2_with (at_builtin; refine wpList_append_lies _ rfl _ _ 25 rfl (w2.heap.size + 1) 3 i0 (.int .i64 0) 1 8 Try.underlying25 hi hz0 hz1 hz2 rfl (by decide) (.slice a2 j c2) j _ rfl (own2.alloc _) ⟨w7.heap.size, 0, none⟩ 1 1 [.int .i64 0] rfl rfl (World.news_of_block kE) (by simp [Value.oneCell']) (by decide) hmx (by omega) (by simp; omega) _ rfl ?_; intro g' cap' w8 hown8 hgrow8 hat8 hlt8; have HOWN8 := Lib.hid hown8; have HGR8 := Lib.hid hgrow8; have HAT8 := Lib.hid hat8; have kC8 := (gD7'.alloc (.cells #[.int .i64 0] 3)).kept hgrow8 hneD; have z6 := kC8.cell 2; have z7 := kC8.frozen 2; simp only [List.getElem?_toArray, List.getElem?_cons_zero, List.getElem?_cons_succ] at z6; clear hown8 hgrow8 hat8)
        refine ⟨⟨j + 1, some ⟨g, 0, none⟩, cap, some ⟨g', 0, none⟩, cap', by omega, by simp, ?_, ?_, ?_, ?_, ?_, ?_, ?_⟩, by simp [intOf]; omega⟩
        · rw [List.replicate_succ']
          refine ownsRow_setCell_below ((HO1.out.alloc (.cells #[.int .i64 0] 3)).kept HGR8.out (.inr fun e => ?_)) (a := ⟨w2.heap.size, 2, none⟩) (Nat.lt_succ_self _) _
          rw [rowOf_own', rowOf_own'] at e
          exact HA7.out e.symm
        · rw [List.replicate_succ']
          exact ownsRow_setCell_below HOWN8.out (a := ⟨w2.heap.size, 2, none⟩) (Nat.lt_succ_self _) _
        · intro k hk hk2
          have e1 : g = k := by simpa using hk
          have e2 : g' = k := by simpa using hk2
          subst e1
          subst e2
          rcases HAT8.out with h | h
          · rw [rowOf_own'] at h; exact HA7.out h
          · simp at h; omega
        · exact kC8.set 2 (.slice (some ⟨g', 0, none⟩) (j + 1) cap')
        · exact ((gF7.alloc (.cells #[.int .i64 0] 3)).kept HGR8.out hneF).other (B' := w2.heap.size) (i := 2) (by omega) _
        · exact ((gR7.alloc (.cells #[.int .i64 0] 3)).kept HGR8.out hneR).other (B' := w2.heap.size) (i := 2) (by omega) _
        · exact ((gb7.alloc gb7.size (.cells #[.int .i64 0] 3)).grown HGR8.out (by simp; exact Nat.le_succ_of_le gb7.size) (fun q e => by rw [rowOf_own'] at e; have := (HQ2.out q e).1; omega)).setCell (p := ⟨w2.heap.size, 2, none⟩) hw2 _
      · obtain rfl : j = F.ps.length := by omega
        have d0 := gD.cell 0
        have d2 := gD.cell 2
        have d3 := gD.cell 3
        have d4 := gD.cell 4
        have d5 := gD.cell 5
        have r0 := gR.cell 0
        have t0 := gR.frozen 0
        have r1 := gR.cell 1
        have t1 := gR.frozen 1
        have r2 := gR.cell 2
        have t2 := gR.frozen 2
        have r3 := gR.cell 3
        have t3 := gR.frozen 3
        have r4 := gR.cell 4
        have t4 := gR.frozen 4
        have r5 := gR.cell 5
        have t5 := gR.frozen 5
        simp only [List.getElem?_toArray, List.getElem?_cons_zero, List.getElem?_cons_succ] at d0 d2 d3 d4 d5 r0 r1 r2 r3 r4 r5
        have H1 := Lib.hid h1
        have H2 := Lib.hid h2
        clear h1 h2
        go_wp2_with fail
        have e1 : Blk ((((((wr.setCell ⟨w.heap.size + 1, 0, none⟩ (.int .i64 0)).setCell ⟨w.heap.size + 1, 1, none⟩ (.slice a1 F.ps.length c1)).setCell ⟨w.heap.size + 1, 2, none⟩ (.slice a2 F.ps.length c2)).setCell ⟨w.heap.size + 1, 3, none⟩ (.slice none 0 0)).setCell ⟨w.heap.size + 1, 4, none⟩ (.slice none 0 0)).setCell ⟨w.heap.size + 1, 5, none⟩ (.slice none 0 0)) (w.heap.size + 1) #[.int .i64 0, .slice a1 F.ps.length c1, .slice a2 F.ps.length c2, .slice none 0 0, .slice none 0 0, .slice none 0 0] 29 := ((((((gR.set 0 (.int .i64 0)).set 1 (.slice a1 F.ps.length c1)).set 2 (.slice a2 F.ps.length c2)).set 3 (.slice none 0 0)).set 4 (.slice none 0 0)).set 5 (.slice none 0 0))
        have e4 := ((((((gb.setCell (p := ⟨w.heap.size + 1, 0, none⟩) (Nat.le_succ _) (.int .i64 0)).setCell (p := ⟨w.heap.size + 1, 1, none⟩) (Nat.le_succ _) (.slice a1 F.ps.length c1)).setCell (p := ⟨w.heap.size + 1, 2, none⟩) (Nat.le_succ _) (.slice a2 F.ps.length c2)).setCell (p := ⟨w.heap.size + 1, 3, none⟩) (Nat.le_succ _) (.slice none 0 0)).setCell (p := ⟨w.heap.size + 1, 4, none⟩) (Nat.le_succ _) (.slice none 0 0)).setCell (p := ⟨w.heap.size + 1, 5, none⟩) (Nat.le_succ _) (.slice none 0 0))
        have e2 : IsNums ((((((wr.setCell ⟨w.heap.size + 1, 0, none⟩ (.int .i64 0)).setCell ⟨w.heap.size + 1, 1, none⟩ (.slice a1 F.ps.length c1)).setCell ⟨w.heap.size + 1, 2, none⟩ (.slice a2 F.ps.length c2)).setCell ⟨w.heap.size + 1, 3, none⟩ (.slice none 0 0)).setCell ⟨w.heap.size + 1, 4, none⟩ (.slice none 0 0)).setCell ⟨w.heap.size + 1, 5, none⟩ (.slice none 0 0)) a1 c1 (List.replicate F.ps.length (-1)) := (isNums_own (l := List.replicate F.ps.length (-1)) (by simpa [List.flatMap_replicate, cellsI] using (ownsRow_setCell_below (ownsRow_setCell_below (ownsRow_setCell_below (ownsRow_setCell_below (ownsRow_setCell_below (ownsRow_setCell_below H1.out (a := ⟨w.heap.size + 1, 0, none⟩) (by show w.heap.size + 1 < w2.heap.size + 1; omega) (.int .i64 0)) (a := ⟨w.heap.size + 1, 1, none⟩) (by show w.heap.size + 1 < w2.heap.size + 1; omega) (.slice a1 F.ps.length c1)) (a := ⟨w.heap.size + 1, 2, none⟩) (by show w.heap.size + 1 < w2.heap.size + 1; omega) (.slice a2 F.ps.length c2)) (a := ⟨w.heap.size + 1, 3, none⟩) (by show w.heap.size + 1 < w2.heap.size + 1; omega) (.slice none 0 0)) (a := ⟨w.heap.size + 1, 4, none⟩) (by show w.heap.size + 1 < w2.heap.size + 1; omega) (.slice none 0 0)) (a := ⟨w.heap.size + 1, 5, none⟩) (by show w.heap.size + 1 < w2.heap.size + 1; omega) (.slice none 0 0))))
        have e3 : IsNums ((((((wr.setCell ⟨w.heap.size + 1, 0, none⟩ (.int .i64 0)).setCell ⟨w.heap.size + 1, 1, none⟩ (.slice a1 F.ps.length c1)).setCell ⟨w.heap.size + 1, 2, none⟩ (.slice a2 F.ps.length c2)).setCell ⟨w.heap.size + 1, 3, none⟩ (.slice none 0 0)).setCell ⟨w.heap.size + 1, 4, none⟩ (.slice none 0 0)).setCell ⟨w.heap.size + 1, 5, none⟩ (.slice none 0 0)) a2 c2 (List.replicate F.ps.length 0) := (isNums_own (l := List.replicate F.ps.length 0) (by simpa [List.flatMap_replicate, cellsI] using (ownsRow_setCell_below (ownsRow_setCell_below (ownsRow_setCell_below (ownsRow_setCell_below (ownsRow_setCell_below (ownsRow_setCell_below H2.out (a := ⟨w.heap.size + 1, 0, none⟩) (by show w.heap.size + 1 < w2.heap.size + 1; omega) (.int .i64 0)) (a := ⟨w.heap.size + 1, 1, none⟩) (by show w.heap.size + 1 < w2.heap.size + 1; omega) (.slice a1 F.ps.length c1)) (a := ⟨w.heap.size + 1, 2, none⟩) (by show w.heap.size + 1 < w2.heap.size + 1; omega) (.slice a2 F.ps.length c2)) (a := ⟨w.heap.size + 1, 3, none⟩) (by show w.heap.size + 1 < w2.heap.size + 1; omega) (.slice none 0 0)) (a := ⟨w.heap.size + 1, 4, none⟩) (by show w.heap.size + 1 < w2.heap.size + 1; omega) (.slice none 0 0)) (a := ⟨w.heap.size + 1, 5, none⟩) (by show w.heap.size + 1 < w2.heap.size + 1; omega) (.slice none 0 0))))
        generalize ((((((wr.setCell ⟨w.heap.size + 1, 0, none⟩ (.int .i64 0)).setCell ⟨w.heap.size + 1, 1, none⟩ (.slice a1 F.ps.length c1)).setCell ⟨w.heap.size + 1, 2, none⟩ (.slice a2 F.ps.length c2)).setCell ⟨w.heap.size + 1, 3, none⟩ (.slice none 0 0)).setCell ⟨w.heap.size + 1, 4, none⟩ (.slice none 0 0)).setCell ⟨w.heap.size + 1, 5, none⟩ (.slice none 0 0)) = W at *
        have x0 := e1.cell 0
        have x1 := e1.cell 1
        have x2 := e1.cell 2
        have x3 := e1.cell 3
        have x4 := e1.cell 4
        have x5 := e1.cell 5
        simp only [List.getElem?_toArray, List.getElem?_cons_zero, List.getElem?_cons_succ] at x0 x1 x2 x3 x4 x5
        exact bodyPost_ret (v := .tuple #[.agg #[.int .i64 0, .slice a1 F.ps.length c1, .slice a2 F.ps.length c2, .slice none 0 0, .slice none 0 0, .slice none 0 0], .int .i64 0]) (by simp [results, Try.results9, go_sem, x0, x1, x2, x3, x4, x5]) rfl ⟨.inr ⟨HE.out, _, rfl, _, _, _, _, rfl, e2, e3⟩, e4⟩
  · have z1 : (checkE F == 0) = false := by simp [hE]
    have z2 : (checkE F != 0) = true := by simp [hE]
    generalize hge : checkE F = E at *
    have HGE := Lib.hid hge
    clear hge
    have r0 := kR1.cell 0
    have t0 := kR1.frozen 0
    have r1 := kR1.cell 1
    have t1 := kR1.frozen 1
    have r2 := kR1.cell 2
    have t2 := kR1.frozen 2
    have r3 := kR1.cell 3
    have t3 := kR1.frozen 3
    have r4 := kR1.cell 4
    have t4 := kR1.frozen 4
    have r5 := kR1.cell 5
    have t5 := kR1.frozen 5
    have lR := kR1.lt
    simp only [List.getElem?_toArray, List.getElem?_cons_zero, List.getElem?_cons_succ] at r0 r1 r2 r3 r4 r5
    go_wp2_with fail
    have e1 : Blk ((((((w2.setCell ⟨w.heap.size + 1, 0, none⟩ (.int .i64 0)).setCell ⟨w.heap.size + 1, 1, none⟩ (.slice none 0 0)).setCell ⟨w.heap.size + 1, 2, none⟩ (.slice none 0 0)).setCell ⟨w.heap.size + 1, 3, none⟩ (.slice none 0 0)).setCell ⟨w.heap.size + 1, 4, none⟩ (.slice none 0 0)).setCell ⟨w.heap.size + 1, 5, none⟩ (.slice none 0 0)) (w.heap.size + 1) #[.int .i64 0, .slice none 0 0, .slice none 0 0, .slice none 0 0, .slice none 0 0, .slice none 0 0] 29 := ((((((kR1.set 0 (.int .i64 0)).set 1 (.slice none 0 0)).set 2 (.slice none 0 0)).set 3 (.slice none 0 0)).set 4 (.slice none 0 0)).set 5 (.slice none 0 0))
    have e4 := ((((((hB1.setCell (p := ⟨w.heap.size + 1, 0, none⟩) (Nat.le_succ _) (.int .i64 0)).setCell (p := ⟨w.heap.size + 1, 1, none⟩) (Nat.le_succ _) (.slice none 0 0)).setCell (p := ⟨w.heap.size + 1, 2, none⟩) (Nat.le_succ _) (.slice none 0 0)).setCell (p := ⟨w.heap.size + 1, 3, none⟩) (Nat.le_succ _) (.slice none 0 0)).setCell (p := ⟨w.heap.size + 1, 4, none⟩) (Nat.le_succ _) (.slice none 0 0)).setCell (p := ⟨w.heap.size + 1, 5, none⟩) (Nat.le_succ _) (.slice none 0 0))
    generalize ((((((w2.setCell ⟨w.heap.size + 1, 0, none⟩ (.int .i64 0)).setCell ⟨w.heap.size + 1, 1, none⟩ (.slice none 0 0)).setCell ⟨w.heap.size + 1, 2, none⟩ (.slice none 0 0)).setCell ⟨w.heap.size + 1, 3, none⟩ (.slice none 0 0)).setCell ⟨w.heap.size + 1, 4, none⟩ (.slice none 0 0)).setCell ⟨w.heap.size + 1, 5, none⟩ (.slice none 0 0)) = W at *
    have x0 := e1.cell 0
    have x1 := e1.cell 1
    have x2 := e1.cell 2
    have x3 := e1.cell 3
    have x4 := e1.cell 4
    have x5 := e1.cell 5
    simp only [List.getElem?_toArray, List.getElem?_cons_zero, List.getElem?_cons_succ] at x0 x1 x2 x3 x4 x5
    exact bodyPost_ret (v := .tuple #[.agg #[.int .i64 0, .slice none 0 0, .slice none 0 0, .slice none 0 0, .slice none 0 0, .slice none 0 0], .int .i64 E]) (by simp [results, Try.results9, go_sem, x0, x1, x2, x3, x4, x5]) rfl ⟨.inl ⟨by rw [HGE.out]; exact hE, by rw [HGE.out]⟩, e4⟩

end Go.Proofs.Ytejobijmjaccgaa
