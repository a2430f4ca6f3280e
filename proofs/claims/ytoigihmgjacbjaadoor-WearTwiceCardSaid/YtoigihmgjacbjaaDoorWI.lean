/- plane.isConvex: whether an outline is convex and counterclockwise. (genWI.py makes it out of the roof's text) No condition. -/
import Derived.Test.YtoigihmgjacbjaaDoorWF
set_option linter.unusedSimpArgs false
namespace Go.Proofs.YtoigihmgjacbjaaDoor
section
open Go.RowKit Go.Shelf
attribute [local go_sem] Oper.semAt_some
/-- No corner is to the right of the edge. -/
def leftAll (l : List Pnt) (e : Edg) : Bool := l.all fun q => decide (0 ≤ e.side q)
/-- All corners are on the edge's line. -/
def flatAll (l : List Pnt) (e : Edg) : Bool := l.all fun q => e.side q == 0
def convexL (l : List Pnt) : Bool := ((List.range l.length).all fun k => leftAll l (edgN l k)) && !((List.range l.length).all fun k => flatAll l (edgN l k))

theorem take_all_succ' {α : Type} (l : List α) (f : α → Bool) (j : Nat) (q : α) (h : l[j]? = some q) : (l.take (j + 1)).all f = ((l.take j).all f && f q) := by
  rw [List.take_add_one, h]
  simp
theorem range_fin {n : Nat} (f : Nat → Bool) : (List.range n).all f = (List.finRange n).all fun k => f k.1 := by
  rw [Bool.eq_iff_iff]
  simp only [List.all_eq_true, List.mem_range]
  exact ⟨fun h k _ => h k.1 k.2, fun h k hk => h ⟨k, hk⟩ (List.mem_finRange _)⟩


theorem slice_inj {a : Option Addr} {n c : Nat} {a' : Option Addr} {n' c' : Nat} (h : Value.slice a n c = .slice a' n' c') : a = a' ∧ n = n' ∧ c = c' := by injection h with h1 h2 h3; exact ⟨h1, h2, h3⟩

set_option maxRecDepth 100000 in
set_option maxHeartbeats 4000000 in
theorem isConvex_any (sa : Option Addr) (slen cap : Nat) (l : List Pnt) (w : World) (hs : IsPts w (.slice sa slen cap) l) (hl : l.length ≤ 1000) (hok : okPts4 l) :
    Calls Tryd.prog 91 #[.slice sa slen cap] w fun e w' => e = .returned (.bool (convexL l)) ∧ Below w.heap.size w w' := by
  refine (callsIn_wide (n := 5)).1 ?_
  refine callsIn_of_wp_marks Tryd.func91 rfl trivial ?_ rfl
  simp only [Tryd.ntmps91, List.size_toArray, List.length_cons, List.length_nil, Nat.reduceAdd, Nat.reduceSub, Array.replicate_succ, Array.replicate_zero, List.push_toArray, List.append_toArray, List.nil_append, List.cons_append]
  gi_wp2_with (refine ⟨trivial, ?_⟩; gi_at_call 92; refine (callsIn_wide.2 (around_any _ _ _ _)).mono ?_; rintro e w' ⟨rfl, rfl⟩)
  have cC := Blk.new w 22 #[.slice sa slen cap]
  have cR := Blk.new (w.alloc (.cells #[.slice sa slen cap] 22)) 4 #[.bool false]
  have cF := Blk.new ((w.alloc (.cells #[.slice sa slen cap] 22)).alloc (.cells #[.bool false] 4)) 4 #[.bool true]
  have cS := Blk.new (((w.alloc (.cells #[.slice sa slen cap] 22)).alloc (.cells #[.bool false] 4)).alloc (.cells #[.bool true] 4)) 22 #[.slice sa slen cap]
  have bC := ((cC.alloc (.cells #[.bool false] 4)).alloc (.cells #[.bool true] 4)).alloc (.cells #[.slice sa slen cap] 22)
  have bR := (cR.alloc (.cells #[.bool true] 4)).alloc (.cells #[.slice sa slen cap] 22)
  have bF := cF.alloc (.cells #[.slice sa slen cap] 22)
  have hB : Below w.heap.size w ((((w.alloc (.cells #[.slice sa slen cap] 22)).alloc (.cells #[.bool false] 4)).alloc (.cells #[.bool true] 4)).alloc (.cells #[.slice sa slen cap] 22)) := ((((Below.refl _ w).alloc (Nat.le_refl _) _).alloc (by simp) _).alloc (by simp; omega) _).alloc (by simp; omega) _
  have hsz : ((((w.alloc (.cells #[.slice sa slen cap] 22)).alloc (.cells #[.bool false] 4)).alloc (.cells #[.bool true] 4)).alloc (.cells #[.slice sa slen cap] 22)).heap.size = w.heap.size + 4 := by simp
  simp only [World.size_alloc] at bR bF cS
  have Hsz := Lib.hid hsz
  obtain ⟨W0, hW0⟩ : ∃ W0, ((((w.alloc (.cells #[.slice sa slen cap] 22)).alloc (.cells #[.bool false] 4)).alloc (.cells #[.bool true] 4)).alloc (.cells #[.slice sa slen cap] 22)) = W0 := ⟨_, rfl⟩
  rw [hW0] at bC bR bF cS hB Hsz ⊢
  clear hsz hW0 cC cR cF
  refine around_law (n := 5) (by omega) (Bs := w.heap.size + 1 + 1 + 1) rfl (fun k => k < w.heap.size ∨ k = w.heap.size + 1 + 1 + 1) l hl (.inr rfl) (fun k hk => by have := Hsz.out; omega)
    (cS.cell 0) ?_ rfl
    (fun pre W => Blk W w.heap.size #[.slice sa slen cap] 22 ∧ Blk W (w.heap.size + 1) #[.bool false] 4 ∧ Blk W (w.heap.size + 1 + 1) #[.bool (pre.all fun k => flatAll l (edgN l k.1))] 4 ∧ (pre.all fun k => leftAll l (edgN l k.1)) = true ∧ Below w.heap.size w W)
    (fun c pre W => c = .ret ∧ Blk W (w.heap.size + 1) #[.bool false] 4 ∧ (pre.all fun k => leftAll l (edgN l k.1)) = false ∧ Below w.heap.size w W)
    ((own_blk _ _ _ _).and ((own_blk _ _ _ _).and ((own_blk _ _ _ _).and ((ownFrom_pure _ _).and (ownFrom_below (Nat.le_refl _) (by have := Hsz.out; omega))))))
    (fun c => (ownFrom_pure _ (fun _ => c = .ret)).and ((own_blk _ _ _ _).and ((ownFrom_pure _ _).and (ownFrom_below (Nat.le_refl _) (by have := Hsz.out; omega)))))
    ⟨bC, bR, bF, rfl, hB⟩
    (fun x Bx => { tmps := #[.slice sa slen cap, .pointer (some ⟨w.heap.size, 0, none⟩), .pointer (some ⟨w.heap.size + 1, 0, none⟩), .pointer (some ⟨w.heap.size + 1 + 1, 0, none⟩), .pointer (some ⟨Bx, 0, none⟩), .pointer (some ⟨Bx + 1, 0, none⟩), undef, undef, undef, .slice sa slen cap,
        .func (.func 99) #[] #[.pointer (some ⟨w.heap.size + 1 + 1 + 1, 0, none⟩)], .agg (pntC (edgN l x.1).a), .agg (pntC (edgN l x.1).b), undef, undef, undef, undef, undef, undef, undef, undef, undef, undef, undef, undef, undef, undef, undef, undef, undef, undef, undef, undef], defers := [] }) ?assign ?body ?done ?stop
  · rcases hs with ⟨h1, h2⟩ | ⟨b, off, c, h1, h2, h3, h4, h5⟩
    · exact .inl ⟨h1, h2⟩
    · exact .inr ⟨b, off, c, h1, .inl h2, h5.below hB h2⟩
  case assign =>
    intro L x W K hK
    unfold pntC encP at *
    gi_wp2
    exact hK
  case body =>
    rintro L pre x Bx W hBx hWs hE hE2 ⟨h1, h2, h3, h4, h5⟩ hlt
    rcases hs with ⟨hx1, hx2⟩ | ⟨b, off, c, hx1, hx2, hx3, hx4, hx5⟩
    · subst hx2
      exact x.elim0
    obtain ⟨rfl, rfl, rfl⟩ := slice_inj hx1
    clear hx1
    have c0 := h1.cell 0
    simp only [List.getElem?_toArray, List.getElem?_cons_zero] at c0
    obtain ⟨hea, heb⟩ := edgN_ok4 hok x.1
    simp only [pntC]
    generalize hEq : edgN l x.1 = E at *
    have HE := Lib.hid hEq
    clear hEq
    gi_wp2_with fail
    gi_loopw [7, 8, 15] (fun _ _ i wr => ∃ j : Nat, j ≤ l.length ∧ i = .int .i64 j ∧ Blk wr Bx (pntC E.a) 45 ∧ Blk wr (Bx + 1) (pntC E.b) 45 ∧ Blk wr (w.heap.size + 1) #[.bool false] 4 ∧ Blk wr w.heap.size #[.slice (some ⟨b, off, none⟩) l.length cap] 22 ∧
        Blk wr (w.heap.size + 1 + 1) #[.bool ((pre.all fun k => flatAll l (edgN l k.1)) && (l.take j).all fun q => E.side q == 0)] 4 ∧ ((l.take j).all fun q => decide (0 ≤ E.side q)) = true ∧
        Below w.heap.size w wr ∧ KeepsOthers W wr ∧ Keeps (fun k => k < w.heap.size ∨ k = w.heap.size + 1 + 1 + 1) W wr)
      (fun _ _ i _ => l.length - (intOf i).toNat)
    case atStart => exact ⟨0, Nat.zero_le _, rfl, hE, hE2, h2, h1, by simpa using h3, by simp, h5, KeepsOthers.refl _, Keeps.refl _ _⟩
    case round =>
      obtain ⟨j, hj, rfl, g1, g1b, g2, g3, g4, g5, g6, g7, g8⟩ := hrel
      by_cases hlj : j < l.length
      · have hq : l[j]? = some l[j] := List.getElem?_eq_getElem hlj
        have hqok : pointB l[j] = true := hok _ (List.getElem_mem hlj)
        have ht4 := take_all_succ' l (fun q => E.side q == 0) j _ hq
        have ht5 := take_all_succ' l (fun q => decide (0 ≤ E.side q)) j _ hq
        have hcc := hx5.below g6 hx2 j _ hq
        have hbs : b < wr.heap.size := Nat.lt_of_lt_of_le hx2 g6.size
        have hqm : l[j] ∈ l := List.getElem_mem hlj
        generalize l[j] = q at *
        have HQ := Lib.hid hqm
        clear hqm
        rw [g5] at ht5
        generalize hF : ((pre.all fun k => flatAll l (edgN l k.1)) && (l.take j).all fun q => E.side q == 0) = F at *
        have HT4 := Lib.hid ht4
        have HT5 := Lib.hid ht5
        have HF := Lib.hid hF
        clear hq ht4 ht5 hF
        have q0 := hcc.1
        have q1 := hcc.2
        clear hcc
        have e0 := g1.cell 0
        have e1 := g1.cell 1
        have e2 := g1b.cell 0
        have e3 := g1b.cell 1
        have t3 := g1b.lt
        have f0 := g4.cell 0
        have f1 := g4.frozen 0
        have r0 := g2.cell 0
        have r1 := g2.frozen 0
        have t0 := g4.lt
        have t1 := g2.lt
        have t2 := g1.lt
        simp only [pntC, List.getElem?_toArray, List.getElem?_cons_zero, List.getElem?_cons_succ] at e0 e1 e2 e3 f0 r0
        have hbx : Bx ≠ w.heap.size + 1 + 1 := by have := Hsz.out; omega
        have hbx2 : Bx + 1 ≠ w.heap.size + 1 + 1 := by have := Hsz.out; omega
        gi_wp2_with fail
        refine ⟨trivial, ?_⟩
        refine (CallsIn.inRound L (callsIn_wide.2 (leftOf_any E.a E.b q hea heb hqok _))).mono ?_
        rintro e w2 ⟨rfl, hb2⟩
        have hb3 : Below wr.heap.size wr w2 := ((Below.refl _ wr).alloc (Nat.le_refl _) _).trans (hb2.mono (by simp))
        clear hb2
        have f2 := (g4.belowS hb3).cell 0
        have f3 := (g4.belowS hb3).frozen 0
        have r2 := (g2.belowS hb3).cell 0
        have r3 := (g2.belowS hb3).frozen 0
        simp only [List.getElem?_toArray, List.getElem?_cons_zero] at f2 r2
        by_cases hsd : E.side q < 0
        · have hd : (Edg.mk E.a E.b).side q < 0 := hsd
          gi_wp2_with fail
          refine ⟨((g7.trans (others_of hb3)).trans (KeepsOthers.setCell _ _ _)).from _, rfl, (g2.belowS hb3).set 0 _, ?_, (g6.trans (hb3.mono g6.size)).setCell (by simp) _⟩
          have hnl : leftAll l E = false := by
            rw [Bool.eq_false_iff]
            intro h
            have h' := List.all_eq_true.1 h q (HQ.out)
            simp at h'
            omega
          rw [List.all_append, List.all_cons, HE.out, hnl]
          simp
        · have hd : ¬ (Edg.mk E.a E.b).side q < 0 := hsd
          have hz : ((Edg.mk E.a E.b).side q == 0) = (E.side q == 0) := rfl
          have HZ := Lib.hid hz
          clear hz
          cases F with
          | true =>
            gi_wp2_with fail
            refine ⟨⟨j + 1, by omega, by simp, ((g1.belowS hb3).other hbx _), ((g1b.belowS hb3).other hbx2 _), (g2.belowS hb3).other (by omega) _, (g3.belowS hb3).other (by omega) _, ?_, ?_, (g6.trans (hb3.mono g6.size)).setCell (by simp; omega) _, (g7.trans (others_of hb3)).trans (KeepsOthers.setCell _ _ _), (g8.trans (Keeps.of_below hb3 (fun k hk => ?_))).setCell (by simp; omega) _⟩, by simp [intOf]; omega⟩
            · have h' := (g4.belowS hb3).set 0 (.bool (E.side q == 0))
              rw [HT4.out, ← Bool.and_assoc, HF.out]
              simpa using h'
            · rw [HT5.out]
              simp
              omega
            · have := hWs
              have := g7.size
              have := Hsz.out
              omega
          | false =>
            gi_wp2_with fail
            refine ⟨⟨j + 1, by omega, by simp, ((g1.belowS hb3).other hbx _), ((g1b.belowS hb3).other hbx2 _), (g2.belowS hb3).other (by omega) _, (g3.belowS hb3).other (by omega) _, ?_, ?_, (g6.trans (hb3.mono g6.size)).setCell (by simp; omega) _, (g7.trans (others_of hb3)).trans (KeepsOthers.setCell _ _ _), (g8.trans (Keeps.of_below hb3 (fun k hk => ?_))).setCell (by simp; omega) _⟩, by simp [intOf]; omega⟩
            · have h' := (g4.belowS hb3).set 0 (.bool (false))
              rw [HT4.out, ← Bool.and_assoc, HF.out]
              simpa using h'
            · rw [HT5.out]
              simp
              omega
            · have := hWs
              have := g7.size
              have := Hsz.out
              omega

      · obtain rfl : j = l.length := by omega
        have HG4 := Lib.hid g4
        clear g4
        gi_wp2
        refine ⟨g7.from _, g8, g3, g2, ?_, ?_, g6⟩
        · have h' := HG4.out
          rw [List.take_length] at h'
          rw [List.all_append, List.all_cons, HE.out]
          simpa [flatAll] using h'
        · rw [List.take_length] at g5
          rw [List.all_append, List.all_cons, HE.out, h4]
          simpa [leftAll] using g5
  case done =>
    rintro D W hD ⟨h1, h2, h3, h4, h5⟩ hK
    have r2 := h2.cell 0
    have f2 := h2.frozen 0
    have r3 := h3.cell 0
    have hv : convexL l = !((List.finRange l.length).all fun k => flatAll l (edgN l k.1)) := by
      unfold convexL
      rw [range_fin, h4, range_fin]
      rfl
    simp only [List.getElem?_toArray, List.getElem?_cons_zero] at r2 r3
    generalize ((List.finRange l.length).all fun k => flatAll l (edgN l k.1)) = V at *
    have HV := Lib.hid hv
    clear hv
    gi_wp2
    have hK' := (KeepsOthers.setCell W ⟨w.heap.size + 1, 0, none⟩ (.bool !V)).same D _ hK rfl
    refine ⟨by simp, .inl ⟨_, _, rfl, run_takeDeferred hK', ?_⟩⟩
    have r4 := ((h2.set 0 (.bool !V)).putObj (.deferred none) hK' rfl).cell 0
    simp only [List.setIfInBounds_toArray, List.set_cons_zero, List.getElem?_toArray, List.getElem?_cons_zero] at r4
    exact ⟨.bool !V, by simp [results, Tryd.results91, go_sem, r4], by rw [HV.out], below_putObj (h5.setCell (p := ⟨w.heap.size + 1, 0, none⟩) (by simp) _) _ (by have := Hsz.out; omega) (Nat.le_trans h5.size (by simp))⟩
  case stop =>
    rintro D c k W hD hk ⟨rfl, h2, h3, h4⟩ hK
    have r2 := h2.cell 0
    have f2 := h2.frozen 0
    simp only [List.getElem?_toArray, List.getElem?_cons_zero] at r2
    have h3' : convexL l = false := by
      unfold convexL
      rw [range_fin]
      have : ((List.finRange l.length).all fun k => leftAll l (edgN l k.1)) = false := by
        rw [Bool.eq_false_iff] at h3 ⊢
        exact fun h => h3 (List.all_eq_true.2 (fun x hx => List.all_eq_true.1 h x (List.mem_of_mem_take hx)))
      rw [this]
      rfl
    have H3 := Lib.hid h3'
    clear h3 h3'
    gi_wp2
    refine ⟨by simp, .inl ⟨_, _, rfl, run_takeDeferred hK, ?_⟩⟩
    have r3 := (h2.putObj (.deferred none) hK rfl).cell 0
    simp only [List.getElem?_toArray, List.getElem?_cons_zero] at r3
    exact ⟨.bool false, by simp [results, Tryd.results91, go_sem, r3], by rw [H3.out], below_putObj h4 _ (by have := Hsz.out; omega) h4.size⟩
end
end Go.Proofs.YtoigihmgjacbjaaDoor
