/- isOn, isWithin: whether a point is on an outline, or within it. -/
import Derived.Test.YtpdgcajbdaleeaaC
namespace Go.Proofs.Ytpdgcajbdaleeaa
open Go.RowKit Go.Shelf
attribute [local go_sem] Oper.semAt_some

/-- A point is on an outline if no edge has it to its right. -/
def onL (l : List Pnt) (p : Pnt) : Bool := (List.range l.length).all fun k => decide (0 ≤ (edgN l k).side p)

theorem onL_fin (l : List Pnt) (p : Pnt) : onL l p = true ↔ ∀ k ∈ List.finRange l.length, 0 ≤ (edgN l k.1).side p := by
  simp only [onL, List.all_eq_true, List.mem_range, decide_eq_true_eq]
  exact ⟨fun h k _ => h k.1 k.2, fun h k hk => h ⟨k, hk⟩ (by simp)⟩

/-- All corners lie within the limits of the plan. -/
def okPts (l : List Pnt) : Prop := ∀ p ∈ l, p.ok
theorem edgN_ok {l : List Pnt} (h : okPts l) (k : Nat) : (edgN l k).ok := by
  have hd : (⟨0, 0⟩ : Pnt).ok := by simp [Pnt.ok]
  have : ∀ i : Nat, (l[i]?.getD ⟨0, 0⟩).ok := fun i => by
    by_cases hi : i < l.length
    · rw [List.getElem?_eq_getElem hi]; exact h _ (List.getElem_mem hi)
    · rw [List.getElem?_eq_none (by omega)]; exact hd
  exact ⟨this _, this _⟩

set_option maxRecDepth 100000 in
set_option maxHeartbeats 2000000 in
theorem isOn_any (sa : Option Addr) (slen cap : Nat) (l : List Pnt) (p : Pnt) (w : World) (hs : IsPts w (.slice sa slen cap) l) (hl : l.length ≤ 1000) (hok : okPts l) (hp : p.ok) :
    Calls Try.prog 40 #[.slice sa slen cap, .agg #[.int .i64 p.x, .int .i64 p.y]] w fun e w' => e = .returned (.bool (onL l p)) ∧ Below w.heap.size w w' := by
  refine (callsIn_wide (n := 5)).1 ?_
  refine callsIn_of_wp_marks Try.func40 rfl trivial ?_ rfl
  simp only [Try.ntmps40, List.size_toArray, List.length_cons, List.length_nil, Nat.reduceAdd, Nat.reduceSub, Array.replicate_succ, Array.replicate_zero, List.push_toArray, List.append_toArray, List.nil_append, List.cons_append]
  gi_wp2_with (refine ⟨trivial, ?_⟩; gi_at_call 67; refine (callsIn_wide.2 (walk_any _ _ _ _)).mono ?_; rintro e w' ⟨rfl, rfl⟩)
  have bP : Blk (((w.alloc (.cells #[.int .i64 p.x, .int .i64 p.y] 27)).alloc (.cells #[.bool false] 4)).alloc (.cells #[.slice sa slen cap] 70)) w.heap.size #[.int .i64 p.x, .int .i64 p.y] 27 := ((Blk.new w _ _).alloc _).alloc _
  have bR := (Blk.new (w.alloc (.cells #[.int .i64 p.x, .int .i64 p.y] 27)) 4 #[.bool false]).alloc (.cells #[.slice sa slen cap] 70)
  have bS := Blk.new ((w.alloc (.cells #[.int .i64 p.x, .int .i64 p.y] 27)).alloc (.cells #[.bool false] 4)) 70 #[.slice sa slen cap]
  have hB : Below w.heap.size w (((w.alloc (.cells #[.int .i64 p.x, .int .i64 p.y] 27)).alloc (.cells #[.bool false] 4)).alloc (.cells #[.slice sa slen cap] 70)) := (((Below.refl _ w).alloc (Nat.le_refl _) _).alloc (by simp) _).alloc (by simp; omega) _
  have hsz : (((w.alloc (.cells #[.int .i64 p.x, .int .i64 p.y] 27)).alloc (.cells #[.bool false] 4)).alloc (.cells #[.slice sa slen cap] 70)).heap.size = w.heap.size + 3 := by simp
  simp only [World.size_alloc] at bR bS
  have Hsz := Lib.hid hsz
  obtain ⟨W0, hW0⟩ : ∃ W0, (((w.alloc (.cells #[.int .i64 p.x, .int .i64 p.y] 27)).alloc (.cells #[.bool false] 4)).alloc (.cells #[.slice sa slen cap] 70)) = W0 := ⟨_, rfl⟩
  rw [hW0] at bP bR bS hB Hsz ⊢
  clear hsz hW0
  refine walk_law (n := 5) (by omega) (Bs := w.heap.size + 1 + 1) rfl (fun k => k < w.heap.size ∨ k = w.heap.size + 1 + 1) l hl (.inr rfl) (fun k hk => by have := Hsz.out; omega)
    (bS.cell 0) ?_ rfl
    (fun pre W => Blk W w.heap.size #[.int .i64 p.x, .int .i64 p.y] 27 ∧ Blk W (w.heap.size + 1) #[.bool false] 4 ∧ (∀ k ∈ pre, 0 ≤ (edgN l k.1).side p) ∧ Below w.heap.size w W)
    (fun c pre W => c = .ret ∧ Blk W (w.heap.size + 1) #[.bool false] 4 ∧ (¬ ∀ k ∈ pre, 0 ≤ (edgN l k.1).side p) ∧ Below w.heap.size w W)
    ((own_blk _ _ _ _).and ((own_blk _ _ _ _).and ((ownFrom_pure _ _).and (ownFrom_below (Nat.le_refl _) (by have := Hsz.out; omega)))))
    (fun c => (ownFrom_pure _ (fun _ => c = .ret)).and ((own_blk _ _ _ _).and ((ownFrom_pure _ _).and (ownFrom_below (Nat.le_refl _) (by have := Hsz.out; omega)))))
    ⟨bP, bR, by simp, hB⟩
    (fun x Bx => { tmps := #[.slice sa slen cap, .agg #[.int .i64 p.x, .int .i64 p.y], undef, .pointer (some ⟨w.heap.size, 0, none⟩), .pointer (some ⟨w.heap.size + 1, 0, none⟩), undef, .pointer (some ⟨Bx, 0, none⟩), .slice sa slen cap,
        .func (.func 102) #[] #[.pointer (some ⟨w.heap.size + 1 + 1, 0, none⟩)], .int .i64 (x.1 : Int), .agg (edgC (edgN l x.1)), undef, undef, undef, undef], defers := [] }) ?assign ?body ?done ?stop
  · rcases hs with ⟨h1, h2⟩ | ⟨b, off, c, h1, h2, h3, h4, h5⟩
    · exact .inl ⟨h1, h2⟩
    · exact .inr ⟨b, off, c, h1, .inl h2, h5.below hB h2⟩
  case assign =>
    intro L x W K hK
    unfold edgC encE at *
    gi_wp2
    exact hK
  case body =>
    rintro L pre x Bx W hBx hWs hE ⟨h1, h2, h3, h4⟩ hlt
    have e0 := hE.cell 0
    have e1 := hE.cell 1
    have e2 := hE.cell 2
    have e3 := hE.cell 3
    have p0 := h1.cell 0
    have p1 := h1.cell 1
    have he := edgN_ok hok x.1
    simp only [edgC, List.getElem?_toArray, List.getElem?_cons_zero, List.getElem?_cons_succ] at e0 e1 e2 e3 p0 p1
    simp only [edgC]
    have hlt1 := h1.lt
    have hlt2 := h2.lt
    generalize hEq : edgN l x.1 = E at *
    have HE := Lib.hid hEq
    clear hEq
    by_cases hsd : E.side p < 0
    · have hd : decide (sgn (E.side p) < 0) = true := by rw [sgn_neg hsd]; rfl
      gi_wp2_with fail
      refine ⟨trivial, ?_⟩
      refine (CallsIn.inRound L (callsIn_wide.2 (side_any E p he hp _))).mono ?_
      rintro e w2 ⟨rfl, hb2⟩
      have r2 := (h2.belowS hb2).cell 0
      have f2 := (h2.belowS hb2).frozen 0
      simp only [List.getElem?_toArray, List.getElem?_cons_zero] at r2
      gi_wp2_with (refine ⟨trivial, ?_⟩; gi_at_call 69; refine (CallsIn.inRound L (callsIn_wide.2 (minus_any _ _))).mono ?_; rintro e w3 ⟨rfl, rfl⟩)
      have hb3 := hb2.mono (Nat.le_of_lt hlt2)
      refine ⟨((others_of hb2).trans (KeepsOthers.setCell _ _ _)).from _, rfl, (h2.belowS hb2).set 0 _, fun h => ?_, (h4.trans (hb2.mono h4.size)).setCell (by simp) _⟩
      have := h x (by simp)
      rw [HE.out] at this
      omega
    · have hd : decide (sgn (E.side p) < 0) = false := by
        have : 0 ≤ sgn (E.side p) := by unfold sgn; rw [if_neg hsd]; split <;> omega
        simp; omega
      gi_wp2_with fail
      refine ⟨trivial, ?_⟩
      refine (CallsIn.inRound L (callsIn_wide.2 (side_any E p he hp _))).mono ?_
      rintro e w2 ⟨rfl, hb2⟩
      gi_wp2_with (refine ⟨trivial, ?_⟩; gi_at_call 69; refine (CallsIn.inRound L (callsIn_wide.2 (minus_any _ _))).mono ?_; rintro e w3 ⟨rfl, rfl⟩)
      refine ⟨(others_of hb2).from _, Keeps.of_below hb2 (fun k hk => by have := Hsz.out; omega), h1.belowS hb2, h2.belowS hb2, fun k hk => ?_, h4.trans (hb2.mono h4.size)⟩
      rcases List.mem_append.1 hk with hk | hk
      · exact h3 k hk
      · obtain rfl := List.mem_singleton.1 hk
        rw [HE.out]
        exact hsd
  case done =>
    rintro D W hD ⟨h1, h2, h3, h4⟩ hK
    have r2 := h2.cell 0
    have f2 := h2.frozen 0
    simp only [List.getElem?_toArray, List.getElem?_cons_zero] at r2
    have H3 := Lib.hid ((onL_fin l p).2 h3)
    clear h3
    gi_wp2
    have hK' := (KeepsOthers.setCell W ⟨w.heap.size + 1, 0, none⟩ (.bool true)).same D _ hK rfl
    refine ⟨by simp, .inl ⟨_, _, rfl, run_takeDeferred hK', ?_⟩⟩
    have r3 := ((h2.set 0 (.bool true)).putObj (.deferred none) hK' rfl).cell 0
    simp only [List.setIfInBounds_toArray, List.set_cons_zero, List.getElem?_toArray, List.getElem?_cons_zero] at r3
    exact ⟨.bool true, by simp [results, Try.results40, go_sem, r3], by rw [H3.out], below_putObj (h4.setCell (p := ⟨w.heap.size + 1, 0, none⟩) (by simp) _) _ (by have := Hsz.out; omega) (Nat.le_trans h4.size (by simp))⟩
  case stop =>
    rintro D c k W hD hk ⟨rfl, h2, h3, h4⟩ hK
    have r2 := h2.cell 0
    have f2 := h2.frozen 0
    simp only [List.getElem?_toArray, List.getElem?_cons_zero] at r2
    have h3' : onL l p = false := by
      rw [Bool.eq_false_iff]
      exact fun h => h3 (fun k hk => (onL_fin l p).1 h k (List.mem_finRange k))
    have H3 := Lib.hid h3'
    clear h3 h3'
    gi_wp2
    refine ⟨by simp, .inl ⟨_, _, rfl, run_takeDeferred hK, ?_⟩⟩
    have r3 := (h2.putObj (.deferred none) hK rfl).cell 0
    simp only [List.getElem?_toArray, List.getElem?_cons_zero] at r3
    exact ⟨.bool false, by simp [results, Try.results40, go_sem, r3], by rw [H3.out], below_putObj h4 _ (by have := Hsz.out; omega) h4.size⟩

/-- A point is within an outline if all edges have it to their left. -/
def withinL (l : List Pnt) (p : Pnt) : Bool := (List.range l.length).all fun k => decide (0 < (edgN l k).side p)

theorem withinL_fin (l : List Pnt) (p : Pnt) : withinL l p = true ↔ ∀ k ∈ List.finRange l.length, 0 < (edgN l k.1).side p := by
  simp only [withinL, List.all_eq_true, List.mem_range, decide_eq_true_eq]
  exact ⟨fun h k _ => h k.1 k.2, fun h k hk => h ⟨k, hk⟩ (by simp)⟩

theorem isWithin_no (v : Value) (p : Pnt) (w : World) (hp : p.okB = false) :
    Calls Try.prog 84 #[v, .agg #[.int .i64 p.x, .int .i64 p.y]] w fun e w' => e = .returned (.bool false) ∧ Below w.heap.size w w' := by
  have hpB : inPlanB p.x p.y = false := hp
  clear hp
  go_enter Try.func84, Try.ntmps84
  go_wp2_with fail
  refine (inPlan_any _ _ _).mono ?_
  rintro e w0 ⟨rfl, hb0⟩
  have r0 := ((Blk.new (w.alloc (.cells #[.int .i64 p.x, .int .i64 p.y] 27)) 4 #[.bool false]).belowS hb0)
  have r1 := r0.cell 0
  have r2 := r0.frozen 0
  simp only [World.size_alloc, List.getElem?_toArray, List.getElem?_cons_zero] at r1 r2
  have hsz := hb0.size
  have hbb : Below w.heap.size w w0 := (((Below.refl _ w).alloc (Nat.le_refl _) _).alloc (by simp) _).trans (hb0.mono (by simp; omega))
  go_wp2
  have r3 := (r0.set 0 (.bool false)).cell 0
  simp only [World.size_alloc, List.setIfInBounds_toArray, List.set_cons_zero, List.getElem?_toArray, List.getElem?_cons_zero] at r3
  exact bodyPost_ret (v := .bool false) (by simp [results, Try.results84, go_sem, r3]) rfl ⟨rfl, hbb.setCell (p := ⟨w.heap.size + 1, 0, none⟩) (by simp) _⟩

set_option maxRecDepth 100000 in
set_option maxHeartbeats 2000000 in
theorem isWithin_yes (sa : Option Addr) (slen cap : Nat) (l : List Pnt) (p : Pnt) (w : World) (hs : IsPts w (.slice sa slen cap) l) (hl : l.length ≤ 1000) (hok : okPts l) (hp : p.ok) :
    Calls Try.prog 84 #[.slice sa slen cap, .agg #[.int .i64 p.x, .int .i64 p.y]] w fun e w' => e = .returned (.bool (withinL l p)) ∧ Below w.heap.size w w' := by
  refine (callsIn_wide (n := 5)).1 ?_
  refine callsIn_of_wp_marks Try.func84 rfl trivial ?_ rfl
  simp only [Try.ntmps84, List.size_toArray, List.length_cons, List.length_nil, Nat.reduceAdd, Nat.reduceSub, Array.replicate_succ, Array.replicate_zero, List.push_toArray, List.append_toArray, List.nil_append, List.cons_append]
  have hpB : inPlanB p.x p.y = true := inPlanB_iff.2 hp
  gi_wp2_with fail
  refine ⟨trivial, ?_⟩
  refine (callsIn_wide.2 (inPlan_any _ _ _)).mono ?_
  rintro e w0 ⟨rfl, hb0⟩
  gi_wp2_with fail
  refine ⟨trivial, ?_⟩
  refine (callsIn_wide.2 (walk_any _ _ _ _)).mono ?_
  rintro e w' ⟨rfl, rfl⟩
  gi_wp2_with fail
  have hb1 : Below w.heap.size w w0 := (((Below.refl _ w).alloc (Nat.le_refl _) _).alloc (by simp) _).trans (hb0.mono (by simp; omega))
  have hsz0 : w.heap.size + 2 ≤ w0.heap.size := by have := hb0.size; simp at this; omega
  have bP : Blk (w0.alloc (.cells #[.slice sa slen cap] 70)) w.heap.size #[.int .i64 p.x, .int .i64 p.y] 27 := ((((Blk.new w _ _).alloc _).belowS hb0)).alloc _
  have bR := ((Blk.new (w.alloc (.cells #[.int .i64 p.x, .int .i64 p.y] 27)) 4 #[.bool false]).belowS hb0).alloc (.cells #[.slice sa slen cap] 70)
  have bS := Blk.new w0 70 #[.slice sa slen cap]
  have hB : Below w.heap.size w (w0.alloc (.cells #[.slice sa slen cap] 70)) := hb1.alloc (by omega) _
  have hsz : (w0.alloc (.cells #[.slice sa slen cap] 70)).heap.size = w0.heap.size + 1 := by simp
  simp only [World.size_alloc] at bR
  have Hsz := Lib.hid hsz
  obtain ⟨W0, hW0⟩ : ∃ W0, (w0.alloc (.cells #[.slice sa slen cap] 70)) = W0 := ⟨_, rfl⟩
  rw [hW0] at bP bR bS hB Hsz ⊢
  clear hsz hW0
  refine walk_law (n := 5) (by omega) (Bs := w0.heap.size) rfl (fun k => k < w.heap.size ∨ k = w0.heap.size) l hl (.inr rfl) (fun k hk => by have := Hsz.out; omega)
    (bS.cell 0) ?_ rfl
    (fun pre W => Blk W w.heap.size #[.int .i64 p.x, .int .i64 p.y] 27 ∧ Blk W (w.heap.size + 1) #[.bool false] 4 ∧ (∀ k ∈ pre, 0 < (edgN l k.1).side p) ∧ Below w.heap.size w W)
    (fun c pre W => c = .ret ∧ Blk W (w.heap.size + 1) #[.bool false] 4 ∧ (¬ ∀ k ∈ pre, 0 < (edgN l k.1).side p) ∧ Below w.heap.size w W)
    ((own_blk _ _ _ _).and ((own_blk _ _ _ _).and ((ownFrom_pure _ _).and (ownFrom_below (Nat.le_refl _) (by have := Hsz.out; omega)))))
    (fun c => (ownFrom_pure _ (fun _ => c = .ret)).and ((own_blk _ _ _ _).and ((ownFrom_pure _ _).and (ownFrom_below (Nat.le_refl _) (by have := Hsz.out; omega)))))
    ⟨bP, bR, by simp, hB⟩
    (fun x Bx => { tmps := #[.slice sa slen cap, .agg #[.int .i64 p.x, .int .i64 p.y], undef, .pointer (some ⟨w.heap.size, 0, none⟩), .pointer (some ⟨w.heap.size + 1, 0, none⟩), undef, .pointer (some ⟨Bx, 0, none⟩), .agg #[.int .i64 p.x, .int .i64 p.y], .bool true, .bool false, .slice sa slen cap,
        .func (.func 102) #[] #[.pointer (some ⟨w0.heap.size, 0, none⟩)], .int .i64 (x.1 : Int), .agg (edgC (edgN l x.1)), undef, undef, undef, undef, undef], defers := [] }) ?assign ?body ?done ?stop
  · rcases hs with ⟨h1, h2⟩ | ⟨b, off, c, h1, h2, h3, h4, h5⟩
    · exact .inl ⟨h1, h2⟩
    · exact .inr ⟨b, off, c, h1, .inl h2, h5.below hB h2⟩
  case assign =>
    intro L x W K hK
    unfold edgC encE at *
    gi_wp2
    exact hK
  case body =>
    rintro L pre x Bx W hBx hWs hE ⟨h1, h2, h3, h4⟩ hlt
    have e0 := hE.cell 0
    have e1 := hE.cell 1
    have e2 := hE.cell 2
    have e3 := hE.cell 3
    have p0 := h1.cell 0
    have p1 := h1.cell 1
    have he := edgN_ok hok x.1
    simp only [edgC, List.getElem?_toArray, List.getElem?_cons_zero, List.getElem?_cons_succ] at e0 e1 e2 e3 p0 p1
    simp only [edgC]
    have hlt1 := h1.lt
    have hlt2 := h2.lt
    generalize hEq : edgN l x.1 = E at *
    have HE := Lib.hid hEq
    clear hEq
    by_cases hsd : E.side p ≤ 0
    · have hd : decide (0 < sgn (E.side p)) = false := by
        have : sgn (E.side p) ≤ 0 := by unfold sgn; (repeat' split) <;> omega
        simp; omega
      gi_wp2_with fail
      refine ⟨trivial, ?_⟩
      refine (CallsIn.inRound L (callsIn_wide.2 (side_any E p he hp _))).mono ?_
      rintro e w2 ⟨rfl, hb2⟩
      have r2 := (h2.belowS hb2).cell 0
      have f2 := (h2.belowS hb2).frozen 0
      simp only [List.getElem?_toArray, List.getElem?_cons_zero] at r2
      gi_wp2_with (refine ⟨trivial, ?_⟩; gi_at_call 116; refine (CallsIn.inRound L (callsIn_wide.2 (plus_any _ _))).mono ?_; rintro e w3 ⟨rfl, rfl⟩)
      have hb3 := hb2.mono (Nat.le_of_lt hlt2)
      refine ⟨((others_of hb2).trans (KeepsOthers.setCell _ _ _)).from _, rfl, (h2.belowS hb2).set 0 _, fun h => ?_, (h4.trans (hb2.mono h4.size)).setCell (by simp) _⟩
      have := h x (by simp)
      rw [HE.out] at this
      omega
    · have hd : decide (0 < sgn (E.side p)) = true := by rw [sgn_pos (by omega)]; rfl
      gi_wp2_with fail
      refine ⟨trivial, ?_⟩
      refine (CallsIn.inRound L (callsIn_wide.2 (side_any E p he hp _))).mono ?_
      rintro e w2 ⟨rfl, hb2⟩
      gi_wp2_with (refine ⟨trivial, ?_⟩; gi_at_call 116; refine (CallsIn.inRound L (callsIn_wide.2 (plus_any _ _))).mono ?_; rintro e w3 ⟨rfl, rfl⟩)
      refine ⟨(others_of hb2).from _, Keeps.of_below hb2 (fun k hk => by have := Hsz.out; omega), h1.belowS hb2, h2.belowS hb2, fun k hk => ?_, h4.trans (hb2.mono h4.size)⟩
      rcases List.mem_append.1 hk with hk | hk
      · exact h3 k hk
      · obtain rfl := List.mem_singleton.1 hk
        rw [HE.out]
        exact hsd
  case done =>
    rintro D W hD ⟨h1, h2, h3, h4⟩ hK
    have r2 := h2.cell 0
    have f2 := h2.frozen 0
    simp only [List.getElem?_toArray, List.getElem?_cons_zero] at r2
    have H3 := Lib.hid ((withinL_fin l p).2 h3)
    clear h3
    gi_wp2
    have hK' := (KeepsOthers.setCell W ⟨w.heap.size + 1, 0, none⟩ (.bool true)).same D _ hK rfl
    refine ⟨by simp, .inl ⟨_, _, rfl, run_takeDeferred hK', ?_⟩⟩
    have r3 := ((h2.set 0 (.bool true)).putObj (.deferred none) hK' rfl).cell 0
    simp only [List.setIfInBounds_toArray, List.set_cons_zero, List.getElem?_toArray, List.getElem?_cons_zero] at r3
    exact ⟨.bool true, by simp [results, Try.results84, go_sem, r3], by rw [H3.out], below_putObj (h4.setCell (p := ⟨w.heap.size + 1, 0, none⟩) (by simp) _) _ (by have := Hsz.out; omega) (Nat.le_trans h4.size (by simp))⟩
  case stop =>
    rintro D c k W hD hk ⟨rfl, h2, h3, h4⟩ hK
    have r2 := h2.cell 0
    have f2 := h2.frozen 0
    simp only [List.getElem?_toArray, List.getElem?_cons_zero] at r2
    have h3' : withinL l p = false := by
      rw [Bool.eq_false_iff]
      exact fun h => h3 (fun k hk => (withinL_fin l p).1 h k (List.mem_finRange k))
    have H3 := Lib.hid h3'
    clear h3 h3'
    gi_wp2
    refine ⟨by simp, .inl ⟨_, _, rfl, run_takeDeferred hK, ?_⟩⟩
    have r3 := (h2.putObj (.deferred none) hK rfl).cell 0
    simp only [List.getElem?_toArray, List.getElem?_cons_zero] at r3
    exact ⟨.bool false, by simp [results, Try.results84, go_sem, r3], by rw [H3.out], below_putObj h4 _ (by have := Hsz.out; omega) h4.size⟩
end Go.Proofs.Ytpdgcajbdaleeaa
