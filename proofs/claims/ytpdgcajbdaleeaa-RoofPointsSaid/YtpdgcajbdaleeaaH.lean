/- isConvex: whether an outline is convex and counterclockwise, isParted, isCovered: whether a line of an edge parts two outlines, overlaps: whether two edges have more than one point in common, The range over edges: with the loop's record told; and within a round of another one. -/
import Derived.Test.YtpdgcajbdaleeaaD
import Derived.Deep.RegionHeld3
namespace Go.Proofs.Ytpdgcajbdaleeaa

/-! ### isConvex: whether an outline is convex and counterclockwise. -/
section
open Go.RowKit Go.Shelf
attribute [local go_sem] Oper.semAt_some

/-- No corner is to the right of the edge. -/
def leftAll (l : List Pnt) (e : Edg) : Bool := l.all fun q => decide (0 ≤ e.side q)
/-- All corners are on the edge's line. -/
def flatAll (l : List Pnt) (e : Edg) : Bool := l.all fun q => e.side q == 0
def convexL (l : List Pnt) : Bool := ((List.range l.length).all fun k => leftAll l (edgN l k)) && !((List.range l.length).all fun k => flatAll l (edgN l k))

theorem range_fin {n : Nat} (f : Nat → Bool) : (List.range n).all f = (List.finRange n).all fun k => f k.1 := by
  rw [Bool.eq_iff_iff]
  simp only [List.all_eq_true, List.mem_range]
  exact ⟨fun h k _ => h k.1 k.2, fun h k hk => h ⟨k, hk⟩ (List.mem_finRange _)⟩

theorem take_all_succ {α : Type} (l : List α) (f : α → Bool) (j : Nat) (q : α) (h : l[j]? = some q) : (l.take (j + 1)).all f = ((l.take j).all f && f q) := by
  rw [List.take_add_one, h]
  simp

theorem slice_inj {a : Option Addr} {n c : Nat} {a' : Option Addr} {n' c' : Nat} (h : Value.slice a n c = .slice a' n' c') : a = a' ∧ n = n' ∧ c = c' := by injection h with h1 h2 h3; exact ⟨h1, h2, h3⟩

set_option maxRecDepth 100000 in
set_option maxHeartbeats 4000000 in
theorem isConvex_any (sa : Option Addr) (slen cap : Nat) (l : List Pnt) (w : World) (hs : IsPts w (.slice sa slen cap) l) (hl : l.length ≤ 1000) (hok : okPts l) :
    Calls Try.prog 114 #[.slice sa slen cap] w fun e w' => e = .returned (.bool (convexL l)) ∧ Below w.heap.size w w' := by
  refine (callsIn_wide (n := 5)).1 ?_
  refine callsIn_of_wp_marks Try.func114 rfl trivial ?_ rfl
  simp only [Try.ntmps114, List.size_toArray, List.length_cons, List.length_nil, Nat.reduceAdd, Nat.reduceSub, Array.replicate_succ, Array.replicate_zero, List.push_toArray, List.append_toArray, List.nil_append, List.cons_append]
  gi_wp2_with (refine ⟨trivial, ?_⟩; gi_at_call 67; refine (callsIn_wide.2 (walk_any _ _ _ _)).mono ?_; rintro e w' ⟨rfl, rfl⟩)
  have cC := Blk.new w 70 #[.slice sa slen cap]
  have cR := Blk.new (w.alloc (.cells #[.slice sa slen cap] 70)) 4 #[.bool false]
  have cF := Blk.new ((w.alloc (.cells #[.slice sa slen cap] 70)).alloc (.cells #[.bool false] 4)) 4 #[.bool true]
  have cS := Blk.new (((w.alloc (.cells #[.slice sa slen cap] 70)).alloc (.cells #[.bool false] 4)).alloc (.cells #[.bool true] 4)) 70 #[.slice sa slen cap]
  have bC := ((cC.alloc (.cells #[.bool false] 4)).alloc (.cells #[.bool true] 4)).alloc (.cells #[.slice sa slen cap] 70)
  have bR := (cR.alloc (.cells #[.bool true] 4)).alloc (.cells #[.slice sa slen cap] 70)
  have bF := cF.alloc (.cells #[.slice sa slen cap] 70)
  have hB : Below w.heap.size w ((((w.alloc (.cells #[.slice sa slen cap] 70)).alloc (.cells #[.bool false] 4)).alloc (.cells #[.bool true] 4)).alloc (.cells #[.slice sa slen cap] 70)) := ((((Below.refl _ w).alloc (Nat.le_refl _) _).alloc (by simp) _).alloc (by simp; omega) _).alloc (by simp; omega) _
  have hsz : ((((w.alloc (.cells #[.slice sa slen cap] 70)).alloc (.cells #[.bool false] 4)).alloc (.cells #[.bool true] 4)).alloc (.cells #[.slice sa slen cap] 70)).heap.size = w.heap.size + 4 := by simp
  simp only [World.size_alloc] at bR bF cS
  have Hsz := Lib.hid hsz
  obtain ⟨W0, hW0⟩ : ∃ W0, ((((w.alloc (.cells #[.slice sa slen cap] 70)).alloc (.cells #[.bool false] 4)).alloc (.cells #[.bool true] 4)).alloc (.cells #[.slice sa slen cap] 70)) = W0 := ⟨_, rfl⟩
  rw [hW0] at bC bR bF cS hB Hsz ⊢
  clear hsz hW0 cC cR cF
  refine walk_law (n := 5) (by omega) (Bs := w.heap.size + 1 + 1 + 1) rfl (fun k => k < w.heap.size ∨ k = w.heap.size + 1 + 1 + 1) l hl (.inr rfl) (fun k hk => by have := Hsz.out; omega)
    (cS.cell 0) ?_ rfl
    (fun pre W => Blk W w.heap.size #[.slice sa slen cap] 70 ∧ Blk W (w.heap.size + 1) #[.bool false] 4 ∧ Blk W (w.heap.size + 1 + 1) #[.bool (pre.all fun k => flatAll l (edgN l k.1))] 4 ∧ (pre.all fun k => leftAll l (edgN l k.1)) = true ∧ Below w.heap.size w W)
    (fun c pre W => c = .ret ∧ Blk W (w.heap.size + 1) #[.bool false] 4 ∧ (pre.all fun k => leftAll l (edgN l k.1)) = false ∧ Below w.heap.size w W)
    ((own_blk _ _ _ _).and ((own_blk _ _ _ _).and ((own_blk _ _ _ _).and ((ownFrom_pure _ _).and (ownFrom_below (Nat.le_refl _) (by have := Hsz.out; omega))))))
    (fun c => (ownFrom_pure _ (fun _ => c = .ret)).and ((own_blk _ _ _ _).and ((ownFrom_pure _ _).and (ownFrom_below (Nat.le_refl _) (by have := Hsz.out; omega)))))
    ⟨bC, bR, bF, rfl, hB⟩
    (fun x Bx => { tmps := #[.slice sa slen cap, .pointer (some ⟨w.heap.size, 0, none⟩), .pointer (some ⟨w.heap.size + 1, 0, none⟩), .pointer (some ⟨w.heap.size + 1 + 1, 0, none⟩), undef, .pointer (some ⟨Bx, 0, none⟩), undef, undef, undef, .slice sa slen cap,
        .func (.func 102) #[] #[.pointer (some ⟨w.heap.size + 1 + 1 + 1, 0, none⟩)], .int .i64 (x.1 : Int), .agg (edgC (edgN l x.1)), undef, undef, undef, undef, undef, undef, undef, undef, undef, undef, undef, undef, undef, undef, undef, undef, undef, undef, undef], defers := [] }) ?assign ?body ?done ?stop
  · rcases hs with ⟨h1, h2⟩ | ⟨b, off, c, h1, h2, h3, h4, h5⟩
    · exact .inl ⟨h1, h2⟩
    · exact .inr ⟨b, off, c, h1, .inl h2, h5.below hB h2⟩
  case assign =>
    intro L x W K hK
    unfold edgC encE at *
    gi_wp2
    exact hK
  case body =>
    rintro L pre x Bx W hBx hWs hE ⟨h1, h2, h3, h4, h5⟩ hlt
    rcases hs with ⟨hx1, hx2⟩ | ⟨b, off, c, hx1, hx2, hx3, hx4, hx5⟩
    · subst hx2
      exact x.elim0
    obtain ⟨rfl, rfl, rfl⟩ := slice_inj hx1
    clear hx1
    have c0 := h1.cell 0
    simp only [List.getElem?_toArray, List.getElem?_cons_zero] at c0
    have he := edgN_ok hok x.1
    simp only [edgC]
    generalize hEq : edgN l x.1 = E at *
    have HE := Lib.hid hEq
    clear hEq
    gi_wp2_with fail
    gi_loopw [15] (fun i wr => ∃ j : Nat, j ≤ l.length ∧ i = .int .i64 j ∧ Blk wr Bx (edgC E) 122 ∧ Blk wr (w.heap.size + 1) #[.bool false] 4 ∧ Blk wr w.heap.size #[.slice (some ⟨b, off, none⟩) l.length cap] 70 ∧
        Blk wr (w.heap.size + 1 + 1) #[.bool ((pre.all fun k => flatAll l (edgN l k.1)) && (l.take j).all fun q => E.side q == 0)] 4 ∧ ((l.take j).all fun q => decide (0 ≤ E.side q)) = true ∧
        Below w.heap.size w wr ∧ KeepsOthers W wr ∧ Keeps (fun k => k < w.heap.size ∨ k = w.heap.size + 1 + 1 + 1) W wr)
      (fun i _ => l.length - (intOf i).toNat)
    case atStart => exact ⟨0, Nat.zero_le _, rfl, hE, h2, h1, by simpa using h3, by simp, h5, KeepsOthers.refl _, Keeps.refl _ _⟩
    case round =>
      obtain ⟨j, hj, rfl, g1, g2, g3, g4, g5, g6, g7, g8⟩ := hrel
      by_cases hlj : j < l.length
      · have hq : l[j]? = some l[j] := List.getElem?_eq_getElem hlj
        have hqok : l[j].ok := hok _ (List.getElem_mem hlj)
        have ht4 := take_all_succ l (fun q => E.side q == 0) j _ hq
        have ht5 := take_all_succ l (fun q => decide (0 ≤ E.side q)) j _ hq
        have hcc := hx5.below g6 hx2 j _ hq
        have hbs : b < wr.heap.size := Nat.lt_of_lt_of_le hx2 g6.size
        have hqm : l[j] ∈ l := List.getElem_mem hlj
        generalize l[j] = q at *
        have HQ := Lib.hid hqm
        clear hqm
        rw [g5] at ht5
        generalize hF : ((pre.all fun k => flatAll l (edgN l k.1)) && (l.take j).all fun q => E.side q == 0) = F at *
        have HT4 := Lib.hid ht4
        have HT5 := Lib.hid ht5
        have HF := Lib.hid hF
        clear hq ht4 ht5 hF
        have q0 := hcc.1
        have q1 := hcc.2
        clear hcc
        have e0 := g1.cell 0
        have e1 := g1.cell 1
        have e2 := g1.cell 2
        have e3 := g1.cell 3
        have f0 := g4.cell 0
        have f1 := g4.frozen 0
        have r0 := g2.cell 0
        have r1 := g2.frozen 0
        have t0 := g4.lt
        have t1 := g2.lt
        have t2 := g1.lt
        simp only [edgC, List.getElem?_toArray, List.getElem?_cons_zero, List.getElem?_cons_succ] at e0 e1 e2 e3 f0 r0
        have hbx : Bx ≠ w.heap.size + 1 + 1 := by have := Hsz.out; omega
        gi_wp2_with fail
        refine ⟨trivial, ?_⟩
        refine (CallsIn.inRound L (callsIn_wide.2 (side_any E q he hqok _))).mono ?_
        rintro e w2 ⟨rfl, hb2⟩
        have hb3 : Below wr.heap.size wr w2 := ((Below.refl _ wr).alloc (Nat.le_refl _) _).trans (hb2.mono (by simp))
        clear hb2
        have f2 := (g4.belowS hb3).cell 0
        have f3 := (g4.belowS hb3).frozen 0
        have r2 := (g2.belowS hb3).cell 0
        have r3 := (g2.belowS hb3).frozen 0
        simp only [List.getElem?_toArray, List.getElem?_cons_zero] at f2 r2
        by_cases hsd : E.side q < 0
        · have hd : decide (sgn (E.side q) < 0) = true := by rw [sgn_neg hsd]; rfl
          gi_wp2_with (refine ⟨trivial, ?_⟩; gi_at_call 69; refine (CallsIn.inRound L (callsIn_wide.2 (minus_any _ _))).mono ?_; rintro e w3 ⟨rfl, rfl⟩)
          refine ⟨((g7.trans (others_of hb3)).trans (KeepsOthers.setCell _ _ _)).from _, rfl, (g2.belowS hb3).set 0 _, ?_, (g6.trans (hb3.mono g6.size)).setCell (by simp) _⟩
          have hnl : leftAll l E = false := by
            rw [Bool.eq_false_iff]
            intro h
            have h' := List.all_eq_true.1 h q (HQ.out)
            simp at h'
            omega
          rw [List.all_append, List.all_cons, HE.out, hnl]
          simp
        · have hd : decide (sgn (E.side q) < 0) = false := by
            have : 0 ≤ sgn (E.side q) := by unfold sgn; rw [if_neg hsd]; split <;> omega
            simp; omega
          have hz : (sgn (E.side q) == 0) = (E.side q == 0) := by
            unfold sgn
            by_cases h0 : E.side q = 0
            · simp [h0]
            · rw [if_neg hsd, if_pos (by omega), Bool.eq_iff_iff]; simp [h0]
          have HZ := Lib.hid hz
          clear hz
          cases F with
          | true =>
            gi_wp2_with (first | (refine ⟨trivial, ?_⟩; gi_at_call 69; refine (CallsIn.inRound L (callsIn_wide.2 (minus_any _ _))).mono ?_; rintro e w3 ⟨rfl, rfl⟩) | (refine ⟨trivial, ?_⟩; gi_at_call 121; refine (CallsIn.inRound L (callsIn_wide.2 (zero_any _ _))).mono ?_; rintro e w3 ⟨rfl, rfl⟩))
            refine ⟨⟨j + 1, by omega, by simp, ((g1.belowS hb3).other hbx _), (g2.belowS hb3).other (by omega) _, (g3.belowS hb3).other (by omega) _, ?_, ?_, (g6.trans (hb3.mono g6.size)).setCell (by simp; omega) _, (g7.trans (others_of hb3)).trans (KeepsOthers.setCell _ _ _), (g8.trans (Keeps.of_below hb3 (fun k hk => ?_))).setCell (by simp; omega) _⟩, by simp [intOf]; omega⟩
            · have h' := (g4.belowS hb3).set 0 (.bool (sgn (E.side q) == 0))
              rw [HT4.out, ← Bool.and_assoc, HF.out]
              rw [HZ.out] at h' ⊢
              simpa using h'
            · rw [HT5.out]
              simp
              omega
            · have := hWs
              have := g7.size
              have := Hsz.out
              omega
          | false =>
            gi_wp2_with (first | (refine ⟨trivial, ?_⟩; gi_at_call 69; refine (CallsIn.inRound L (callsIn_wide.2 (minus_any _ _))).mono ?_; rintro e w3 ⟨rfl, rfl⟩) | (refine ⟨trivial, ?_⟩; gi_at_call 121; refine (CallsIn.inRound L (callsIn_wide.2 (zero_any _ _))).mono ?_; rintro e w3 ⟨rfl, rfl⟩))
            refine ⟨trivial, ?_⟩
            gi_wp2
            refine ⟨⟨j + 1, by omega, by simp, ((g1.belowS hb3).other hbx _), (g2.belowS hb3).other (by omega) _, (g3.belowS hb3).other (by omega) _, ?_, ?_, (g6.trans (hb3.mono g6.size)).setCell (by simp; omega) _, (g7.trans (others_of hb3)).trans (KeepsOthers.setCell _ _ _), (g8.trans (Keeps.of_below hb3 (fun k hk => ?_))).setCell (by simp; omega) _⟩, by simp [intOf]; omega⟩
            · have h' := (g4.belowS hb3).set 0 (.bool (false))
              rw [HT4.out, ← Bool.and_assoc, HF.out]
              simpa using h'
            · rw [HT5.out]
              simp
              omega
            · have := hWs
              have := g7.size
              have := Hsz.out
              omega

      · obtain rfl : j = l.length := by omega
        have HG4 := Lib.hid g4
        clear g4
        gi_wp2
        refine ⟨g7.from _, g8, g3, g2, ?_, ?_, g6⟩
        · have h' := HG4.out
          rw [List.take_length] at h'
          rw [List.all_append, List.all_cons, HE.out]
          simpa [flatAll] using h'
        · rw [List.take_length] at g5
          rw [List.all_append, List.all_cons, HE.out, h4]
          simpa [leftAll] using g5
  case done =>
    rintro D W hD ⟨h1, h2, h3, h4, h5⟩ hK
    have r2 := h2.cell 0
    have f2 := h2.frozen 0
    have r3 := h3.cell 0
    have hv : convexL l = !((List.finRange l.length).all fun k => flatAll l (edgN l k.1)) := by
      unfold convexL
      rw [range_fin, h4, range_fin]
      rfl
    simp only [List.getElem?_toArray, List.getElem?_cons_zero] at r2 r3
    generalize ((List.finRange l.length).all fun k => flatAll l (edgN l k.1)) = V at *
    have HV := Lib.hid hv
    clear hv
    gi_wp2
    have hK' := (KeepsOthers.setCell W ⟨w.heap.size + 1, 0, none⟩ (.bool !V)).same D _ hK rfl
    refine ⟨by simp, .inl ⟨_, _, rfl, run_takeDeferred hK', ?_⟩⟩
    have r4 := ((h2.set 0 (.bool !V)).putObj (.deferred none) hK' rfl).cell 0
    simp only [List.setIfInBounds_toArray, List.set_cons_zero, List.getElem?_toArray, List.getElem?_cons_zero] at r4
    exact ⟨.bool !V, by simp [results, Try.results114, go_sem, r4], by rw [HV.out], below_putObj (h5.setCell (p := ⟨w.heap.size + 1, 0, none⟩) (by simp) _) _ (by have := Hsz.out; omega) (Nat.le_trans h5.size (by simp))⟩
  case stop =>
    rintro D c k W hD hk ⟨rfl, h2, h3, h4⟩ hK
    have r2 := h2.cell 0
    have f2 := h2.frozen 0
    simp only [List.getElem?_toArray, List.getElem?_cons_zero] at r2
    have h3' : convexL l = false := by
      unfold convexL
      rw [range_fin]
      have : ((List.finRange l.length).all fun k => leftAll l (edgN l k.1)) = false := by
        rw [Bool.eq_false_iff] at h3 ⊢
        exact fun h => h3 (List.all_eq_true.2 (fun x hx => List.all_eq_true.1 h x (List.mem_of_mem_take hx)))
      rw [this]
      rfl
    have H3 := Lib.hid h3'
    clear h3 h3'
    gi_wp2
    refine ⟨by simp, .inl ⟨_, _, rfl, run_takeDeferred hK, ?_⟩⟩
    have r3 := (h2.putObj (.deferred none) hK rfl).cell 0
    simp only [List.getElem?_toArray, List.getElem?_cons_zero] at r3
    exact ⟨.bool false, by simp [results, Try.results114, go_sem, r3], by rw [H3.out], below_putObj h4 _ (by have := Hsz.out; omega) h4.size⟩
end

/-! ### isParted, isCovered: whether a line of an edge parts two outlines. -/
section
open Go.RowKit Go.Shelf
attribute [local go_sem] Oper.semAt_some

/-- Some corner is to the left of the edge. -/
def leftAny (l : List Pnt) (e : Edg) : Bool := l.any fun q => decide (0 < e.side q)
/-- The line of an edge of a has nothing of b to its left. -/
def partedL (a b : List Pnt) : Bool := !((List.range a.length).all fun k => leftAny b (edgN a k))
def coveredL (a b : List Pnt) : Bool := !partedL a b && !partedL b a

theorem take_any_succ {α : Type} (l : List α) (f : α → Bool) (j : Nat) (q : α) (h : l[j]? = some q) : (l.take (j + 1)).any f = ((l.take j).any f || f q) := by
  rw [List.take_add_one, h]
  simp

theorem pos_sgn (n : Int) : decide (0 < sgn n) = decide (0 < n) := by
  unfold sgn
  rw [Bool.eq_iff_iff]
  simp only [decide_eq_true_eq]
  (repeat' split) <;> omega

set_option maxRecDepth 100000 in
set_option maxHeartbeats 4000000 in
theorem isParted_any (sa sb : Option Addr) (la ca lb cb : Nat) (l m : List Pnt) (w : World) (hs : IsPts w (.slice sa la ca) l) (ht : IsPts w (.slice sb lb cb) m) (hl : l.length ≤ 1000) (hm : m.length ≤ 1000) (hok : okPts l) (hok' : okPts m) :
    Calls Try.prog 117 #[.slice sa la ca, .slice sb lb cb] w fun e w' => e = .returned (.bool (partedL l m)) ∧ Below w.heap.size w w' := by
  refine (callsIn_wide (n := 5)).1 ?_
  refine callsIn_of_wp_marks Try.func117 rfl trivial ?_ rfl
  simp only [Try.ntmps117, List.size_toArray, List.length_cons, List.length_nil, Nat.reduceAdd, Nat.reduceSub, Array.replicate_succ, Array.replicate_zero, List.push_toArray, List.append_toArray, List.nil_append, List.cons_append]
  gi_wp2_with (refine ⟨trivial, ?_⟩; gi_at_call 67; refine (callsIn_wide.2 (walk_any _ _ _ _)).mono ?_; rintro e w' ⟨rfl, rfl⟩)
  have cC := Blk.new w 70 #[.slice sb lb cb]
  have cR := Blk.new (w.alloc (.cells #[.slice sb lb cb] 70)) 4 #[.bool false]
  have cS := Blk.new ((w.alloc (.cells #[.slice sb lb cb] 70)).alloc (.cells #[.bool false] 4)) 70 #[.slice sa la ca]
  have bC := (cC.alloc (.cells #[.bool false] 4)).alloc (.cells #[.slice sa la ca] 70)
  have bR := cR.alloc (.cells #[.slice sa la ca] 70)
  have hB : Below w.heap.size w (((w.alloc (.cells #[.slice sb lb cb] 70)).alloc (.cells #[.bool false] 4)).alloc (.cells #[.slice sa la ca] 70)) := (((Below.refl _ w).alloc (Nat.le_refl _) _).alloc (by simp) _).alloc (by simp; omega) _
  have hsz : (((w.alloc (.cells #[.slice sb lb cb] 70)).alloc (.cells #[.bool false] 4)).alloc (.cells #[.slice sa la ca] 70)).heap.size = w.heap.size + 3 := by simp
  simp only [World.size_alloc] at bR cS
  have Hsz := Lib.hid hsz
  obtain ⟨W0, hW0⟩ : ∃ W0, (((w.alloc (.cells #[.slice sb lb cb] 70)).alloc (.cells #[.bool false] 4)).alloc (.cells #[.slice sa la ca] 70)) = W0 := ⟨_, rfl⟩
  rw [hW0] at bC bR cS hB Hsz ⊢
  clear hsz hW0 cC cR
  refine walk_law (n := 5) (by omega) (Bs := w.heap.size + 1 + 1) rfl (fun k => k < w.heap.size ∨ k = w.heap.size + 1 + 1) l hl (.inr rfl) (fun k hk => by have := Hsz.out; omega)
    (cS.cell 0) ?_ rfl
    (fun pre W => Blk W w.heap.size #[.slice sb lb cb] 70 ∧ Blk W (w.heap.size + 1) #[.bool false] 4 ∧ (pre.all fun k => leftAny m (edgN l k.1)) = true ∧ Below w.heap.size w W)
    (fun c pre W => c = .ret ∧ Blk W (w.heap.size + 1) #[.bool true] 4 ∧ (pre.all fun k => leftAny m (edgN l k.1)) = false ∧ Below w.heap.size w W)
    ((own_blk _ _ _ _).and ((own_blk _ _ _ _).and ((ownFrom_pure _ _).and (ownFrom_below (Nat.le_refl _) (by have := Hsz.out; omega)))))
    (fun c => (ownFrom_pure _ (fun _ => c = .ret)).and ((own_blk _ _ _ _).and ((ownFrom_pure _ _).and (ownFrom_below (Nat.le_refl _) (by have := Hsz.out; omega)))))
    ⟨bC, bR, rfl, hB⟩
    (fun x Bx => { tmps := #[.slice sa la ca, .slice sb lb cb, undef, .pointer (some ⟨w.heap.size, 0, none⟩), .pointer (some ⟨w.heap.size + 1, 0, none⟩), undef, .pointer (some ⟨Bx, 0, none⟩), undef, undef, undef, .slice sa la ca,
        .func (.func 102) #[] #[.pointer (some ⟨w.heap.size + 1 + 1, 0, none⟩)], .int .i64 (x.1 : Int), .agg (edgC (edgN l x.1)), undef, undef, undef, undef, undef, undef, undef, undef, undef, undef, undef, undef, undef, undef, undef, undef], defers := [] }) ?assign ?body ?done ?stop
  · rcases hs with ⟨h1, h2⟩ | ⟨b, off, c, h1, h2, h3, h4, h5⟩
    · exact .inl ⟨h1, h2⟩
    · exact .inr ⟨b, off, c, h1, .inl h2, h5.below hB h2⟩
  case assign =>
    intro L x W K hK
    unfold edgC encE at *
    gi_wp2
    exact hK
  case body =>
    rintro L pre x Bx W hBx hWs hE ⟨h1, h2, h4, h5⟩ hlt
    have hWs' := hWs
    have he := edgN_ok hok x.1
    simp only [edgC]
    generalize hEq : edgN l x.1 = E at *
    have HE := Lib.hid hEq
    clear hEq
    have c0 := h1.cell 0
    simp only [List.getElem?_toArray, List.getElem?_cons_zero] at c0
    rcases ht with ⟨hx1, rfl⟩ | ⟨b, off, c, hx1, hx2, hx3, hx4, hx5⟩
    · obtain ⟨a1, c1, hx1⟩ := hx1
      obtain ⟨rfl, rfl, rfl⟩ := slice_inj hx1
      clear hx1
      have r0 := h2.cell 0
      have r1 := h2.frozen 0
      simp only [List.getElem?_toArray, List.getElem?_cons_zero] at r0
      gi_wp2_with fail
      gi_loopw [7, 16] (fun v i wr => v = .bool false ∧ i = .int .i64 0 ∧ wr = W) (fun _ _ _ => 0)
      case atStart => exact ⟨rfl, rfl, rfl⟩
      case round =>
        obtain ⟨rfl, rfl, rfl⟩ := hrel
        gi_wp2
        refine ⟨(KeepsOthers.setCell _ _ _).from _, rfl, h2.set 0 _, ?_, h5.setCell (by simp) _⟩
        rw [List.all_append, List.all_cons]
        simp [leftAny]
    obtain ⟨rfl, rfl, rfl⟩ := slice_inj hx1
    clear hx1
    gi_wp2_with fail
    gi_loopw [7, 16] (fun v i wr => ∃ j : Nat, j ≤ m.length ∧ i = .int .i64 j ∧ v = .bool ((m.take j).any fun q => decide (0 < E.side q)) ∧ Blk wr Bx (edgC E) 122 ∧ Blk wr (w.heap.size + 1) #[.bool false] 4 ∧ Blk wr w.heap.size #[.slice (some ⟨b, off, none⟩) m.length cb] 70 ∧
        Below w.heap.size w wr ∧ KeepsOthers W wr ∧ Keeps (fun k => k < w.heap.size ∨ k = w.heap.size + 1 + 1) W wr)
      (fun _ i _ => m.length - (intOf i).toNat)
    case atStart => exact ⟨0, Nat.zero_le _, rfl, by simp, hE, h2, h1, h5, KeepsOthers.refl _, Keeps.refl _ _⟩
    case round =>
      obtain ⟨j, hj, rfl, rfl, g1, g2, g3, g6, g7, g8⟩ := hrel
      by_cases hlj : j < m.length
      · have hq : m[j]? = some m[j] := List.getElem?_eq_getElem hlj
        have hqok : m[j].ok := hok' _ (List.getElem_mem hlj)
        have ht4 := take_any_succ m (fun q => decide (0 < E.side q)) j _ hq
        have hcc := hx5.below g6 hx2 j _ hq
        have hbs : b < wr.heap.size := Nat.lt_of_lt_of_le hx2 g6.size
        generalize m[j] = q at *
        generalize hF : ((m.take j).any fun q => decide (0 < E.side q)) = F at *
        have HT4 := Lib.hid ht4
        clear hq ht4 hF
        have q0 := hcc.1
        have q1 := hcc.2
        clear hcc
        have e0 := g1.cell 0
        have e1 := g1.cell 1
        have e2 := g1.cell 2
        have e3 := g1.cell 3
        have t2 := g1.lt
        simp only [edgC, List.getElem?_toArray, List.getElem?_cons_zero, List.getElem?_cons_succ] at e0 e1 e2 e3
        have hb0 : Below wr.heap.size wr (wr.alloc (.cells #[.int .i64 q.x, .int .i64 q.y] 27)) := (Below.refl _ wr).alloc (Nat.le_refl _) _
        cases F with
        | true =>
          gi_wp2_with fail
          refine ⟨trivial, ?_⟩
          gi_wp2_with fail
          refine ⟨trivial, ?_⟩
          gi_wp2
          refine ⟨⟨j + 1, by omega, by simp, by rw [HT4.out]; simp, (g1.alloc _), g2.alloc _, g3.alloc _, g6.trans (hb0.mono g6.size), g7.trans (others_of hb0), g8.trans (Keeps.of_below hb0 (fun k hk => ?_))⟩, by simp [intOf]; omega⟩
          have := hWs
          have := g7.size
          have := Hsz.out
          omega
        | false =>
          gi_wp2_with fail
          refine ⟨trivial, ?_⟩
          refine (CallsIn.inRound L (callsIn_wide.2 (side_any E q he hqok _))).mono ?_
          rintro e w2 ⟨rfl, hb2⟩
          have hb3 : Below wr.heap.size wr w2 := hb0.trans (hb2.mono (by simp))
          clear hb2
          gi_wp2_with (refine ⟨trivial, ?_⟩; gi_at_call 116; refine (CallsIn.inRound L (callsIn_wide.2 (plus_any _ _))).mono ?_; rintro e w3 ⟨rfl, rfl⟩)
          refine ⟨⟨j + 1, by omega, by simp, by rw [HT4.out, pos_sgn]; simp, (g1.belowS hb3), g2.belowS hb3, g3.belowS hb3, g6.trans (hb3.mono g6.size), g7.trans (others_of hb3), g8.trans (Keeps.of_below hb3 (fun k hk => ?_))⟩, by simp [intOf]; omega⟩
          have := hWs
          have := g7.size
          have := Hsz.out
          omega
      · obtain rfl : j = m.length := by omega
        have r0 := g2.cell 0
        have r1 := g2.frozen 0
        simp only [List.getElem?_toArray, List.getElem?_cons_zero] at r0
        rw [List.take_length]
        generalize hF : (m.any fun q => decide (0 < E.side q)) = F
        have HF := Lib.hid hF
        clear hF
        cases F with
        | true =>
          gi_wp2
          refine ⟨g7.from _, g8, g3, g2, ?_, g6⟩
          rw [List.all_append, List.all_cons, HE.out, h4]
          simpa [leftAny] using HF.out
        | false =>
          gi_wp2
          refine ⟨(g7.trans (KeepsOthers.setCell _ _ _)).from _, rfl, g2.set 0 _, ?_, g6.setCell (by simp) _⟩
          have hf : leftAny m E = false := HF.out
          rw [List.all_append, List.all_cons, HE.out, hf]
          simp
  case done =>
    rintro D W hD ⟨h1, h2, h4, h5⟩ hK
    have r2 := h2.cell 0
    have f2 := h2.frozen 0
    have hv : partedL l m = false := by
      unfold partedL
      rw [range_fin, h4]
      rfl
    simp only [List.getElem?_toArray, List.getElem?_cons_zero] at r2
    have HV := Lib.hid hv
    clear hv
    gi_wp2
    have hK' := (KeepsOthers.setCell W ⟨w.heap.size + 1, 0, none⟩ (.bool false)).same D _ hK rfl
    refine ⟨by simp, .inl ⟨_, _, rfl, run_takeDeferred hK', ?_⟩⟩
    have r4 := ((h2.set 0 (.bool false)).putObj (.deferred none) hK' rfl).cell 0
    simp only [List.setIfInBounds_toArray, List.set_cons_zero, List.getElem?_toArray, List.getElem?_cons_zero] at r4
    exact ⟨.bool false, by simp [results, Try.results117, go_sem, r4], by rw [HV.out], below_putObj (h5.setCell (p := ⟨w.heap.size + 1, 0, none⟩) (by simp) _) _ (by have := Hsz.out; omega) (Nat.le_trans h5.size (by simp))⟩
  case stop =>
    rintro D c k W hD hk ⟨rfl, h2, h3, h4⟩ hK
    have r2 := h2.cell 0
    have f2 := h2.frozen 0
    simp only [List.getElem?_toArray, List.getElem?_cons_zero] at r2
    have h3' : partedL l m = true := by
      unfold partedL
      rw [range_fin]
      have : ((List.finRange l.length).all fun k => leftAny m (edgN l k.1)) = false := by
        rw [Bool.eq_false_iff] at h3 ⊢
        exact fun h => h3 (List.all_eq_true.2 (fun x hx => List.all_eq_true.1 h x (List.mem_of_mem_take hx)))
      rw [this]
      rfl
    have H3 := Lib.hid h3'
    clear h3 h3'
    gi_wp2
    refine ⟨by simp, .inl ⟨_, _, rfl, run_takeDeferred hK, ?_⟩⟩
    have r3 := (h2.putObj (.deferred none) hK rfl).cell 0
    simp only [List.getElem?_toArray, List.getElem?_cons_zero] at r3
    exact ⟨.bool true, by simp [results, Try.results117, go_sem, r3], by rw [H3.out], below_putObj h4 _ (by have := Hsz.out; omega) h4.size⟩

theorem isCovered_any (sa sb : Option Addr) (la ca lb cb : Nat) (l m : List Pnt) (w : World) (hs : IsPts w (.slice sa la ca) l) (ht : IsPts w (.slice sb lb cb) m) (hl : l.length ≤ 1000) (hm : m.length ≤ 1000) (hok : okPts l) (hok' : okPts m) :
    Calls Try.prog 87 #[.slice sa la ca, .slice sb lb cb] w fun e w' => e = .returned (.bool (coveredL l m)) ∧ Below w.heap.size w w' := by
  cases hp : partedL l m with
  | true =>
    have hv : coveredL l m = false := by simp [coveredL, hp]
    have HP := Lib.hid hp
    have HV := Lib.hid hv
    clear hp hv
    go_enter Try.func87, Try.ntmps87
    go_wp2_with fail
    refine (isParted_any sa sb la ca lb cb l m _ hs ht hl hm hok hok').mono ?_
    rintro e w1 ⟨rfl, hb1⟩
    rw [HP.out]
    go_wp2
    go_ret
    exact ⟨by rw [HV.out]; rfl, hb1⟩
  | false =>
    have hv : coveredL l m = !partedL m l := by simp [coveredL, hp]
    have HP := Lib.hid hp
    have HV := Lib.hid hv
    clear hp hv
    go_enter Try.func87, Try.ntmps87
    go_wp2_with fail
    refine (isParted_any sa sb la ca lb cb l m _ hs ht hl hm hok hok').mono ?_
    rintro e w1 ⟨rfl, hb1⟩
    rw [HP.out]
    go_wp2_with fail
    refine (isParted_any sb sa lb cb la ca m l _ (ht.below hb1) (hs.below hb1) hm hl hok' hok).mono ?_
    rintro e w2 ⟨rfl, hb2⟩
    go_wp2
    go_ret
    exact ⟨by rw [HV.out]; rfl, hb1.trans (hb2.mono hb1.size)⟩
end

/-! ### overlaps: whether two edges have more than one point in common. -/
section
open Go.RowKit Go.Shelf

def overB (e o : Edg) : Bool := (e.side o.a == 0 && e.side o.b == 0) && ((decide (0 < e.along o.a) || decide (0 < e.along o.b)) && (decide (e.along o.a < e.along e.b) || decide (e.along o.b < e.along e.b)))

theorem zero_sgn (n : Int) : (sgn n == 0) = (n == 0) := by
  unfold sgn
  rw [Bool.eq_iff_iff]
  simp only [beq_iff_eq]
  (repeat' split) <;> omega

/-- The cells of two edges. -/
abbrev TwoE (W : World) (B : Nat) (e o : Edg) (w : World) : Prop := Below W.heap.size W w ∧
  ((w.cell? ⟨B, 0, none⟩ = some (.int .i64 e.a.x) ∧ w.cell? ⟨B, 1, none⟩ = some (.int .i64 e.a.y) ∧ w.cell? ⟨B, 2, none⟩ = some (.int .i64 e.b.x) ∧ w.cell? ⟨B, 3, none⟩ = some (.int .i64 e.b.y)) ∧
    (w.cell? ⟨B + 1, 0, none⟩ = some (.int .i64 o.a.x) ∧ w.cell? ⟨B + 1, 1, none⟩ = some (.int .i64 o.a.y) ∧ w.cell? ⟨B + 1, 2, none⟩ = some (.int .i64 o.b.x) ∧ w.cell? ⟨B + 1, 3, none⟩ = some (.int .i64 o.b.y)))

theorem TwoE.step {W w w' : World} {B : Nat} {e o : Edg} (h : TwoE W B e o w) (hB : B + 1 < W.heap.size) (hb : Below w.heap.size w w') : TwoE W B e o w' := by
  obtain ⟨h0, ⟨h1, h2, h3, h4⟩, h5, h6, h7, h8⟩ := h
  have hs := h0.size
  have c : ∀ b i, b < w.heap.size → w'.cell? ⟨b, i, none⟩ = w.cell? ⟨b, i, none⟩ := fun b i h => hb.cell (p := ⟨b, i, none⟩) h
  exact ⟨h0.trans (hb.mono hs), ⟨(c _ _ (by omega)).trans h1, (c _ _ (by omega)).trans h2, (c _ _ (by omega)).trans h3, (c _ _ (by omega)).trans h4⟩, (c _ _ (by omega)).trans h5, (c _ _ (by omega)).trans h6, (c _ _ (by omega)).trans h7, (c _ _ (by omega)).trans h8⟩

set_option maxRecDepth 100000 in
set_option maxHeartbeats 400000 in
theorem overlaps_any (e o : Edg) (he : e.ok) (ho : o.ok) (w : World) :
    Calls Try.prog 118 #[.agg #[.int .i64 e.a.x, .int .i64 e.a.y, .int .i64 e.b.x, .int .i64 e.b.y], .agg #[.int .i64 o.a.x, .int .i64 o.a.y, .int .i64 o.b.x, .int .i64 o.b.y]] w fun r w' =>
      r = .returned (.bool (overB e o)) ∧ Below w.heap.size w w' := by
  have bE := (Blk.new w 122 (edgC e)).alloc (.cells (edgC o) 122)
  have bO := Blk.new (w.alloc (.cells (edgC e) 122)) 122 (edgC o)
  have hB : Below w.heap.size w ((w.alloc (.cells (edgC e) 122)).alloc (.cells (edgC o) 122)) := ((Below.refl _ w).alloc (Nat.le_refl _) _).alloc (by simp) _
  have hsz : w.heap.size + 1 < ((w.alloc (.cells (edgC e) 122)).alloc (.cells (edgC o) 122)).heap.size := by simp
  rw [World.size_alloc] at bO
  have hT : TwoE ((w.alloc (.cells (edgC e) 122)).alloc (.cells (edgC o) 122)) w.heap.size e o ((w.alloc (.cells (edgC e) 122)).alloc (.cells (edgC o) 122)) :=
    ⟨Below.refl _ _, ⟨bE.cell 0, bE.cell 1, bE.cell 2, bE.cell 3⟩, bO.cell 0, bO.cell 1, bO.cell 2, bO.cell 3⟩
  clear bE bO
  obtain ⟨W, hW⟩ : ∃ W, ((w.alloc (.cells (edgC e) 122)).alloc (.cells (edgC o) 122)) = W := ⟨_, rfl⟩
  rw [hW] at hT hB hsz
  have HW := Lib.hid hW
  clear hW
  have HT := Lib.hid hT
  clear hT
  go_enter Try.func118, Try.ntmps118
  go_wp2_with fail
  refine (side_any e o.a he ho.1 _).mono ?_
  have hw : ∀ x y, x = W → Below x.heap.size x y → TwoE W w.heap.size e o y := fun x y hx hb => HT.out.step hsz (hx ▸ hb)
  rintro r w1 ⟨rfl, hb1⟩
  have h1 := hw _ _ HW.out hb1
  clear hb1 hw
  have hv1 : (sgn (e.side o.a) == 0) = (e.side o.a == 0) := zero_sgn _
  have hv2 : (sgn (e.side o.b) == 0) = (e.side o.b == 0) := zero_sgn _
  cases hz1 : (e.side o.a == 0) with
  | false =>
    rw [hz1] at hv1
    have hr : overB e o = false := by simp [overB, hz1]
    have HR := Lib.hid hr
    clear hr hv2 hz1
    obtain ⟨hb, ⟨c0, c1, c2, c3⟩, d0, d1, d2, d3⟩ := h1
    go_wp2_with (go_at_call 121; refine (zero_any _ _).mono ?_; rintro r w3 ⟨rfl, rfl⟩)
    go_ret
    exact ⟨by rw [HR.out]; rfl, hB.trans (hb.mono hB.size)⟩
  | true =>
    rw [hz1] at hv1
    have hc := h1
    obtain ⟨hb, ⟨c0, c1, c2, c3⟩, d0, d1, d2, d3⟩ := h1
    have H1 := Lib.hid hc
    have HZ1 := Lib.hid hz1
    have HV2 := Lib.hid hv2
    clear hc hz1 hv2
    go_wp2_with (go_at_call 121; refine (zero_any _ _).mono ?_; rintro r w3 ⟨rfl, rfl⟩)
    refine (side_any e o.b he ho.2 _).mono ?_
    rintro r w2 ⟨rfl, hb2⟩
    have h2 := H1.out.step hsz hb2
    clear hb hb2 c0 c1 c2 c3 d0 d1 d2 d3 H1
    cases hz2 : (e.side o.b == 0) with
    | false =>
      have hv2 := HV2.out
      rw [hz2] at hv2
      have hr : overB e o = false := by simp [overB, HZ1.out, hz2]
      have HR := Lib.hid hr
      clear hr hz2
      have hb := h2.1
      clear h2
      go_wp2_with (go_at_call 121; refine (zero_any _ _).mono ?_; rintro r w3 ⟨rfl, rfl⟩)
      go_ret
      exact ⟨by rw [HR.out]; rfl, hB.trans (hb.mono hB.size)⟩
    | true =>
      have hv2 := HV2.out
      rw [hz2] at hv2
      have hr : overB e o = ((decide (0 < e.along o.a) || decide (0 < e.along o.b)) && (decide (e.along o.a < e.along e.b) || decide (e.along o.b < e.along e.b))) := by simp [overB, HZ1.out, hz2]
      have HR := Lib.hid hr
      clear hr hz2
      have hdr : TwoE W w.heap.size e o w2.drew := ⟨h2.1.drew, by simpa using h2.2⟩
      obtain ⟨hb, ⟨c0, c1, c2, c3⟩, d0, d1, d2, d3⟩ := h2
      go_wp2_with (go_at_call 121; refine (zero_any _ _).mono ?_; rintro r w3 ⟨rfl, rfl⟩)
      clear hv1 hv2
      have ho1 : o.a.ok := ho.1
      have ho2 : o.b.ok := ho.2
      go_region_held3 (fun w' => Below W.heap.size W w' ∧ ((w'.cell? ⟨w.heap.size, 0, none⟩ = some (.int .i64 e.a.x) ∧ w'.cell? ⟨w.heap.size, 1, none⟩ = some (.int .i64 e.a.y) ∧ w'.cell? ⟨w.heap.size, 2, none⟩ = some (.int .i64 e.b.x) ∧ w'.cell? ⟨w.heap.size, 3, none⟩ = some (.int .i64 e.b.y)) ∧
          (w'.cell? ⟨w.heap.size + 1, 0, none⟩ = some (.int .i64 o.a.x) ∧ w'.cell? ⟨w.heap.size + 1, 1, none⟩ = some (.int .i64 o.a.y) ∧ w'.cell? ⟨w.heap.size + 1, 2, none⟩ = some (.int .i64 o.b.x) ∧ w'.cell? ⟨w.heap.size + 1, 3, none⟩ = some (.int .i64 o.b.y))))
        (first | (with_reducible exact hdr) | (with_reducible refine TwoE.step ?_ hsz hb3; with_reducible assumption) | (trace_state; fail))
        (first | (go_at_call 130; (with_reducible refine (along_any e o.a he ho1 _).mono ?_); rintro r w3 ⟨rfl, hb3⟩) | (go_at_call 130; (with_reducible refine (along_any e o.b he ho2 _).mono ?_); rintro r w3 ⟨rfl, hb3⟩))
      all_goals (go_wp2_with fail)
      all_goals go_split_ands
      all_goals first
        | (refine (along_any e e.b he he.2 _).mono ?_
           rintro r w4 ⟨rfl, hb4⟩
           go_wp2
           all_goals go_ret
           refine ⟨?_, hB.trans (((Below.trans (B := W.heap.size) (by with_reducible assumption) (hb4.mono (Below.size (B := W.heap.size) (w := W) (by with_reducible assumption))))).mono hB.size)⟩
           rw [HR.out]
           refine ret_bool ?_
           rw [Bool.eq_iff_iff]
           simp only [Bool.and_eq_true, Bool.or_eq_true, decide_eq_true_eq]
           omega)
        | (go_ret
           refine ⟨?_, hB.trans (Below.mono (B := W.heap.size) (by with_reducible assumption) hB.size)⟩
           rw [HR.out]
           refine ret_bool ?_
           rw [Bool.eq_iff_iff]
           simp only [Bool.and_eq_true, Bool.or_eq_true, decide_eq_true_eq, Bool.false_eq_true]
           exact ⟨fun h => h.elim, fun h => by omega⟩)
end

/-! ### The range over edges: with the loop's record told; and within a round of another one. -/
section
open Go.RowKit Go.Shelf
attribute [local go_sem] Oper.semAt_some

/-- **'for k, e := range walk(corners) { .. }'**, the edge in a box of its own. -/
theorem walk_law2 {n : Nat} (hn : 3 ≤ n) {g : Operand} {ps : Array Tmp} {assign body : Code} {Q : Exit → Act → World → Prop} {a : Act} {w : World} {Bs : Nat}
    (hg : a.eval g = .func (.func 102) #[] #[.pointer (some ⟨Bs, 0, none⟩)]) (S : Nat → Prop) {sv : Value} (l : List Pnt) (hl : l.length ≤ 1000) (hBs : S Bs) (hS : ∀ k, S k → k < w.heap.size)
    (hc : w.cell? ⟨Bs, 0, none⟩ = some sv) (hsv : ((∃ a c, sv = .slice a 0 c) ∧ l = []) ∨ ∃ b off cap, sv = .slice (some ⟨b, off, none⟩) l.length cap ∧ S b ∧ PtsAt w b off l) (hps : ps.size = 2)
    (I : List (Fin l.length) → World → Prop) (Ix : Code → List (Fin l.length) → World → Prop) (hI : OwnFrom w.heap.size I) (hIx : ∀ c, OwnFrom w.heap.size (Ix c)) (h0 : I [] w) (A : Fin l.length → Nat → Act)
    (hassign : ∀ (L : Nat) (x : Fin l.length) (W : World) (K : Act → World → Prop), K (A x W.heap.size) (W.alloc (.cells (edgC (edgN l x.1)) 122)) →
      assign.wpIn (Fence.wide.inRound L) (n - 1 - 1) Try.prog (Exit.then K (fun _ _ _ => False)) { tmps := (ps.zip (encE l x)).foldl (fun t (p, v) => t.setIfInBounds p v) a.tmps, defers := [] } W)
    (hbody : ∀ (L : Nat) (pre : List (Fin l.length)) (x : Fin l.length) (Bx : Nat) (W : World), w.heap.size ≤ L → (∃ r, W.heap[L]? = some (.loop r)) → w.heap.size ≤ Bx → w.heap.size ≤ W.heap.size → Blk W Bx (edgC (edgN l x.1)) 122 → I pre W → pre.length < l.length →
      body.wpIn (Fence.wide.inRound L) (n - 1 - 1) Try.prog (ownPostG w.heap.size (Keeps S) I Ix (pre ++ [x]) W) (A x Bx) W)
    (hdone : ∀ (D : Nat) (W : World), w.heap.size ≤ D → I (List.finRange l.length) W → W.heap[D]? = some (.deferred (some [])) → Q .normal { a with defers := { target := .collected D, args := #[] } :: a.defers } W)
    (hstop : ∀ (D : Nat) (c : Code) (k : Nat) (W : World), w.heap.size ≤ D → k ≤ l.length → Ix c ((List.finRange l.length).take k) W → W.heap[D]? = some (.deferred (some [])) → c.wpIn Fence.wide n Try.prog Q { a with defers := { target := .collected D, args := #[] } :: a.defers } W) :
    (Code.rangeFunc g ps assign body).wpIn Fence.wide n Try.prog Q a w := by
  refine wpIn_rangeFunc_ownH rfl (by omega) (gf := 102) (lb := #[.pointer (some ⟨Bs, 0, none⟩)]) hg trivial (enters_of Try.func102 (by kernel_rfl) rfl)
    (walk_stops (n - 1) (by omega) Bs S sv l hl w hBs hS hc hsv) (fun h k => h.trans k) (keeps_b hS) (Below.refl _ _) (fun _ => by rw [hps]; rfl)
    (fun pre W => I pre W ∧ w.heap.size ≤ W.heap.size) Ix (hI.and (fun _ _ _ _ hs hg _ => Nat.le_trans hs hg.size)) hIx ⟨h0, Nat.le_refl _⟩ (fun x a' W => ∃ Bx, w.heap.size ≤ Bx ∧ Blk W Bx (edgC (edgN l x.1)) 122 ∧ a' = A x Bx)
    (fun x a' s X Y row hs hg hr => by obtain ⟨Bx, h1, h2, h3⟩ := hs; exact ⟨Bx, h1, own_blk w.heap.size Bx _ (fun _ : Unit => edgC (edgN l x.1)) () X Y row h2 hg hr, h3⟩)
    ?assign ?body ?done ?stop
  case assign =>
    intro L pre x W K hi hK
    exact hassign L x W K (hK _ _ ((KeepsOthers.alloc _ _).from _) ⟨by simp, fun k hk => Below.heap_alloc _ _ _ (Nat.lt_of_lt_of_le (hS k hk) hi.2)⟩ ⟨hI.alloc _ hi.1, by have := hi.2; simp; omega⟩ ⟨W.heap.size, hi.2, Blk.new _ _ _, rfl⟩)
  case body =>
    rintro L pre x a' W hl' hr hi ⟨Bx, h1, h2, rfl⟩ hlt
    refine wpIn_mono (hbody L pre x Bx W hl' hr h1 hi.2 h2 hi.1 hlt) ?_
    rintro e a3 W3 hp
    cases e with
    | normal => exact ⟨hp.1, hp.2.1, hp.2.2, Nat.le_trans hi.2 hp.1.size⟩
    | ret => exact hp
    | exit id => exact hp
    | goto t => exact hp
    | panic ch => exact hp
    | outgrown => exact hp
  case done =>
    rintro D xs W hD rfl hi hK
    exact hdone D W hD hi.1 hK
  case stop =>
    rintro D c pre W hD ⟨k, hk, rfl⟩ hi hK
    exact hstop D c k W hD hk hi hK

/-- **'for k, e := range walk(corners) { .. }'**, the edge in a box of its own. -/
theorem walk_lawN {L₀ : Nat} {r₀ : Loop} {n : Nat} (hn : 3 ≤ n) {g : Operand} {ps : Array Tmp} {assign body : Code} {Q : Exit → Act → World → Prop} {a : Act} {w : World} {Bs : Nat} (hr₀ : w.heap[L₀]? = some (.loop r₀))
    (hg : a.eval g = .func (.func 102) #[] #[.pointer (some ⟨Bs, 0, none⟩)]) (S : Nat → Prop) {sv : Value} (l : List Pnt) (hl : l.length ≤ 1000) (hBs : S Bs) (hS : ∀ k, S k → k < w.heap.size)
    (hc : w.cell? ⟨Bs, 0, none⟩ = some sv) (hsv : ((∃ a c, sv = .slice a 0 c) ∧ l = []) ∨ ∃ b off cap, sv = .slice (some ⟨b, off, none⟩) l.length cap ∧ S b ∧ PtsAt w b off l) (hps : ps.size = 2)
    (I : List (Fin l.length) → World → Prop) (Ix : Code → List (Fin l.length) → World → Prop) (hI : OwnFrom w.heap.size I) (hIx : ∀ c, OwnFrom w.heap.size (Ix c)) (h0 : I [] w) (A : Fin l.length → Nat → Act)
    (hassign : ∀ (L : Nat) (x : Fin l.length) (W : World) (K : Act → World → Prop), K (A x W.heap.size) (W.alloc (.cells (edgC (edgN l x.1)) 122)) →
      assign.wpIn ((Fence.wide.inRound L₀).inRound L) (n - 1 - 1) Try.prog (Exit.then K (fun _ _ _ => False)) { tmps := (ps.zip (encE l x)).foldl (fun t (p, v) => t.setIfInBounds p v) a.tmps, defers := [] } W)
    (hbody : ∀ (L : Nat) (pre : List (Fin l.length)) (x : Fin l.length) (Bx : Nat) (W : World), w.heap.size ≤ Bx → w.heap.size ≤ W.heap.size → Blk W Bx (edgC (edgN l x.1)) 122 → I pre W → pre.length < l.length →
      body.wpIn ((Fence.wide.inRound L₀).inRound L) (n - 1 - 1) Try.prog (ownPostG w.heap.size (Keeps S) I Ix (pre ++ [x]) W) (A x Bx) W)
    (hdone : ∀ (W : World), I (List.finRange l.length) W → Q .normal a W)
    (hstop : ∀ (c : Code) (k : Nat) (W : World), k ≤ l.length → Ix c ((List.finRange l.length).take k) W → c.wpIn (Fence.wide.inRound L₀) n Try.prog Q a W) :
    (Code.rangeFunc g ps assign body).wpIn (Fence.wide.inRound L₀) n Try.prog Q a w := by
  refine wpIn_rangeFunc_ownN (l₀ := L₀) (r₀ := r₀) rfl hr₀ (by omega) (gf := 102) (lb := #[.pointer (some ⟨Bs, 0, none⟩)]) hg trivial (enters_of Try.func102 (by kernel_rfl) rfl)
    ((walk_stops (n - 1) (by omega) Bs S sv l hl w hBs hS hc hsv).inRound L₀) (fun h k => h.trans k) (keeps_b hS) (Below.refl _ _) (fun _ => by rw [hps]; rfl)
    (fun pre W => I pre W ∧ w.heap.size ≤ W.heap.size) Ix (hI.and (fun _ _ _ _ hs hg _ => Nat.le_trans hs hg.size)) hIx ⟨h0, Nat.le_refl _⟩ (fun x a' W => ∃ Bx, w.heap.size ≤ Bx ∧ Blk W Bx (edgC (edgN l x.1)) 122 ∧ a' = A x Bx)
    (fun x a' s X Y row hs hg hr => by obtain ⟨Bx, h1, h2, h3⟩ := hs; exact ⟨Bx, h1, own_blk w.heap.size Bx _ (fun _ : Unit => edgC (edgN l x.1)) () X Y row h2 hg hr, h3⟩)
    ?assign ?body ?done ?stop
  case assign =>
    intro L pre x W K hi hK
    exact hassign L x W K (hK _ _ ((KeepsOthers.alloc _ _).from _) ⟨by simp, fun k hk => Below.heap_alloc _ _ _ (Nat.lt_of_lt_of_le (hS k hk) hi.2)⟩ ⟨hI.alloc _ hi.1, by have := hi.2; simp; omega⟩ ⟨W.heap.size, hi.2, Blk.new _ _ _, rfl⟩)
  case body =>
    rintro L pre x a' W _ _ hi ⟨Bx, h1, h2, rfl⟩ hlt
    refine wpIn_mono (hbody L pre x Bx W h1 hi.2 h2 hi.1 hlt) ?_
    rintro e a3 W3 hp
    cases e with
    | normal => exact ⟨hp.1, hp.2.1, hp.2.2, Nat.le_trans hi.2 hp.1.size⟩
    | ret => exact hp
    | exit id => exact hp
    | goto t => exact hp
    | panic ch => exact hp
    | outgrown => exact hp
  case done =>
    rintro xs W rfl hi
    exact hdone W hi.1
  case stop =>
    rintro c pre W ⟨k, hk, rfl⟩ hi
    exact hstop c k W hk hi

/-! ### Points and edges compared -/
theorem run_equalIn_at (d : Nat) (p q : Pnt) (w : World) : (Op.equalIn (d + 2) 27 (.agg #[.int .i64 p.x, .int .i64 p.y]) (.agg #[.int .i64 q.x, .int .i64 q.y])).run Try.prog w = .ok (decide (p = q)) w := by
  rw [run_equalIn_struct w (d + 1) 27 _ _ (by kernel_rfl) (by kernel_rfl)]
  obtain ⟨px, py⟩ := p
  obtain ⟨qx, qy⟩ := q
  by_cases h1 : px = qx <;> by_cases h2 : py = qy
  all_goals simp [Program.fieldsOf, Try.underlying27, Op.eqFields, go_sem, h1, h2]
theorem run_equalIn_edge (d : Nat) (e o : Edg) (w : World) : (Op.equalIn (d + 3) 122 (.agg (edgC e)) (.agg (edgC o))).run Try.prog w = .ok (decide (e = o)) w := by
  rw [run_equalIn_struct w (d + 2) 122 _ _ (by kernel_rfl) (by kernel_rfl)]
  obtain ⟨p, q⟩ := e
  obtain ⟨p', q'⟩ := o
  have h1 := run_equalIn_at d p p'
  have h2 := run_equalIn_at d q q'
  by_cases e1 : p = p' <;> by_cases e2 : q = q'
  all_goals simp [Program.fieldsOf, Try.underlying122, Op.eqFields, edgC, go_sem, h1, h2, e1, e2]
theorem run_neq_edge (e o : Edg) (w : World) : (binOp .neq 122 (.agg (edgC e)) (.agg (edgC o))).run Try.prog w = .ok (.bool (decide (e ≠ o))) w := by
  simp [binOp, Op.equal, Op.maxDepth, run_equalIn_edge 9997]
theorem run_eql_edge (e o : Edg) (w : World) : (binOp .eql 122 (.agg (edgC e)) (.agg (edgC o))).run Try.prog w = .ok (.bool (decide (e = o))) w := by
  simp [binOp, Op.equal, Op.maxDepth, run_equalIn_edge 9997]
theorem run_eql_at (e o : Pnt) (w : World) : (binOp .eql 27 (.agg #[.int .i64 e.x, .int .i64 e.y]) (.agg #[.int .i64 o.x, .int .i64 o.y])).run Try.prog w = .ok (.bool (decide (e = o))) w := by
  simp [binOp, Op.equal, Op.maxDepth, run_equalIn_at 9998]
end
end Go.Proofs.Ytpdgcajbdaleeaa
