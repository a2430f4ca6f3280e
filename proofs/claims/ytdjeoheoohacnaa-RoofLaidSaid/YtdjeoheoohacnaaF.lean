/- isParted, isCovered: whether a line of an edge parts two outlines. -/
import Derived.Test.YtdjeoheoohacnaaE
namespace Go.Proofs.Ytdjeoheoohacnaa
open Go.RowKit Go.Shelf
attribute [local go_sem] Oper.semAt_some

/-- Some corner is to the left of the edge. -/
def leftAny (l : List Pnt) (e : Edg) : Bool := l.any fun q => decide (0 < e.side q)
/-- The line of an edge of a has nothing of b to its left. -/
def partedL (a b : List Pnt) : Bool := !((List.range a.length).all fun k => leftAny b (edgN a k))
def coveredL (a b : List Pnt) : Bool := !partedL a b && !partedL b a

theorem take_any_succ {α : Type} (l : List α) (f : α → Bool) (j : Nat) (q : α) (h : l[j]? = some q) : (l.take (j + 1)).any f = ((l.take j).any f || f q) := by
  rw [List.take_add_one, h]
  simp

theorem pos_sgn (n : Int) : decide (0 < sgn n) = decide (0 < n) := by
  unfold sgn
  rw [Bool.eq_iff_iff]
  simp only [decide_eq_true_eq]
  (repeat' split) <;> omega

set_option maxRecDepth 100000 in
set_option maxHeartbeats 4000000 in
theorem isParted_any (sa sb : Option Addr) (la ca lb cb : Nat) (l m : List Pnt) (w : World) (hs : IsPts w (.slice sa la ca) l) (ht : IsPts w (.slice sb lb cb) m) (hl : l.length ≤ 1000) (hm : m.length ≤ 1000) (hok : okPts l) (hok' : okPts m) :
    Calls Try.prog 97 #[.slice sa la ca, .slice sb lb cb] w fun e w' => e = .returned (.bool (partedL l m)) ∧ Below w.heap.size w w' := by
  refine (callsIn_wide (n := 5)).1 ?_
  refine callsIn_of_wp_marks Try.func97 rfl trivial ?_ rfl
  simp only [Try.ntmps97, List.size_toArray, List.length_cons, List.length_nil, Nat.reduceAdd, Nat.reduceSub, Array.replicate_succ, Array.replicate_zero, List.push_toArray, List.append_toArray, List.nil_append, List.cons_append]
  gi_wp2_with (refine ⟨trivial, ?_⟩; gi_at_call 52; refine (callsIn_wide.2 (walk_any _ _ _ _)).mono ?_; rintro e w' ⟨rfl, rfl⟩)
  have cC := Blk.new w 35 #[.slice sb lb cb]
  have cR := Blk.new (w.alloc (.cells #[.slice sb lb cb] 35)) 4 #[.bool false]
  have cS := Blk.new ((w.alloc (.cells #[.slice sb lb cb] 35)).alloc (.cells #[.bool false] 4)) 35 #[.slice sa la ca]
  have bC := (cC.alloc (.cells #[.bool false] 4)).alloc (.cells #[.slice sa la ca] 35)
  have bR := cR.alloc (.cells #[.slice sa la ca] 35)
  have hB : Below w.heap.size w (((w.alloc (.cells #[.slice sb lb cb] 35)).alloc (.cells #[.bool false] 4)).alloc (.cells #[.slice sa la ca] 35)) := (((Below.refl _ w).alloc (Nat.le_refl _) _).alloc (by simp) _).alloc (by simp; omega) _
  have hsz : (((w.alloc (.cells #[.slice sb lb cb] 35)).alloc (.cells #[.bool false] 4)).alloc (.cells #[.slice sa la ca] 35)).heap.size = w.heap.size + 3 := by simp
  simp only [World.size_alloc] at bR cS
  have Hsz := Lib.hid hsz
  obtain ⟨W0, hW0⟩ : ∃ W0, (((w.alloc (.cells #[.slice sb lb cb] 35)).alloc (.cells #[.bool false] 4)).alloc (.cells #[.slice sa la ca] 35)) = W0 := ⟨_, rfl⟩
  rw [hW0] at bC bR cS hB Hsz ⊢
  clear hsz hW0 cC cR
  refine walk_law (n := 5) (by omega) (Bs := w.heap.size + 1 + 1) rfl (fun k => k < w.heap.size ∨ k = w.heap.size + 1 + 1) l hl (.inr rfl) (fun k hk => by have := Hsz.out; omega)
    (cS.cell 0) ?_ rfl
    (fun pre W => Blk W w.heap.size #[.slice sb lb cb] 35 ∧ Blk W (w.heap.size + 1) #[.bool false] 4 ∧ (pre.all fun k => leftAny m (edgN l k.1)) = true ∧ Below w.heap.size w W)
    (fun c pre W => c = .ret ∧ Blk W (w.heap.size + 1) #[.bool true] 4 ∧ (pre.all fun k => leftAny m (edgN l k.1)) = false ∧ Below w.heap.size w W)
    ((own_blk _ _ _ _).and ((own_blk _ _ _ _).and ((ownFrom_pure _ _).and (ownFrom_below (Nat.le_refl _) (by have := Hsz.out; omega)))))
    (fun c => (ownFrom_pure _ (fun _ => c = .ret)).and ((own_blk _ _ _ _).and ((ownFrom_pure _ _).and (ownFrom_below (Nat.le_refl _) (by have := Hsz.out; omega)))))
    ⟨bC, bR, rfl, hB⟩
    (fun x Bx => { tmps := #[.slice sa la ca, .slice sb lb cb, undef, .pointer (some ⟨w.heap.size, 0, none⟩), .pointer (some ⟨w.heap.size + 1, 0, none⟩), undef, .pointer (some ⟨Bx, 0, none⟩), undef, undef, undef, .slice sa la ca,
        .func (.func 87) #[] #[.pointer (some ⟨w.heap.size + 1 + 1, 0, none⟩)], .int .i64 (x.1 : Int), .agg (edgC (edgN l x.1)), undef, undef, undef, undef, undef, undef, undef, undef, undef, undef, undef, undef, undef, undef, undef, undef], defers := [] }) ?assign ?body ?done ?stop
  · rcases hs with ⟨h1, h2⟩ | ⟨b, off, c, h1, h2, h3, h4, h5⟩
    · exact .inl ⟨h1, h2⟩
    · exact .inr ⟨b, off, c, h1, .inl h2, h5.below hB h2⟩
  case assign =>
    intro L x W K hK
    unfold edgC encE at *
    gi_wp2
    exact hK
  case body =>
    rintro L pre x Bx W hBx hWs hE ⟨h1, h2, h4, h5⟩ hlt
    have hWs' := hWs
    have he := edgN_ok hok x.1
    simp only [edgC]
    generalize hEq : edgN l x.1 = E at *
    have HE := Lib.hid hEq
    clear hEq
    have c0 := h1.cell 0
    simp only [List.getElem?_toArray, List.getElem?_cons_zero] at c0
    rcases ht with ⟨hx1, rfl⟩ | ⟨b, off, c, hx1, hx2, hx3, hx4, hx5⟩
    · obtain ⟨a1, c1, hx1⟩ := hx1
      obtain ⟨rfl, rfl, rfl⟩ := slice_inj hx1
      clear hx1
      have r0 := h2.cell 0
      have r1 := h2.frozen 0
      simp only [List.getElem?_toArray, List.getElem?_cons_zero] at r0
      gi_wp2_with fail
      gi_loopw [7, 16] (fun v i wr => v = .bool false ∧ i = .int .i64 0 ∧ wr = W) (fun _ _ _ => 0)
      case atStart => exact ⟨rfl, rfl, rfl⟩
      case round =>
        obtain ⟨rfl, rfl, rfl⟩ := hrel
        gi_wp2
        refine ⟨(KeepsOthers.setCell _ _ _).from _, rfl, h2.set 0 _, ?_, h5.setCell (by simp) _⟩
        rw [List.all_append, List.all_cons]
        simp [leftAny]
    obtain ⟨rfl, rfl, rfl⟩ := slice_inj hx1
    clear hx1
    gi_wp2_with fail
    gi_loopw [7, 16] (fun v i wr => ∃ j : Nat, j ≤ m.length ∧ i = .int .i64 j ∧ v = .bool ((m.take j).any fun q => decide (0 < E.side q)) ∧ Blk wr Bx (edgC E) 104 ∧ Blk wr (w.heap.size + 1) #[.bool false] 4 ∧ Blk wr w.heap.size #[.slice (some ⟨b, off, none⟩) m.length cb] 35 ∧
        Below w.heap.size w wr ∧ KeepsOthers W wr ∧ Keeps (fun k => k < w.heap.size ∨ k = w.heap.size + 1 + 1) W wr)
      (fun _ i _ => m.length - (intOf i).toNat)
    case atStart => exact ⟨0, Nat.zero_le _, rfl, by simp, hE, h2, h1, h5, KeepsOthers.refl _, Keeps.refl _ _⟩
    case round =>
      obtain ⟨j, hj, rfl, rfl, g1, g2, g3, g6, g7, g8⟩ := hrel
      by_cases hlj : j < m.length
      · have hq : m[j]? = some m[j] := List.getElem?_eq_getElem hlj
        have hqok : m[j].ok := hok' _ (List.getElem_mem hlj)
        have ht4 := take_any_succ m (fun q => decide (0 < E.side q)) j _ hq
        have hcc := hx5.below g6 hx2 j _ hq
        have hbs : b < wr.heap.size := Nat.lt_of_lt_of_le hx2 g6.size
        generalize m[j] = q at *
        generalize hF : ((m.take j).any fun q => decide (0 < E.side q)) = F at *
        have HT4 := Lib.hid ht4
        clear hq ht4 hF
        have q0 := hcc.1
        have q1 := hcc.2
        clear hcc
        have e0 := g1.cell 0
        have e1 := g1.cell 1
        have e2 := g1.cell 2
        have e3 := g1.cell 3
        have t2 := g1.lt
        simp only [edgC, List.getElem?_toArray, List.getElem?_cons_zero, List.getElem?_cons_succ] at e0 e1 e2 e3
        have hb0 : Below wr.heap.size wr (wr.alloc (.cells #[.int .i64 q.x, .int .i64 q.y] 27)) := (Below.refl _ wr).alloc (Nat.le_refl _) _
        cases F with
        | true =>
          gi_wp2_with fail
          refine ⟨trivial, ?_⟩
          gi_wp2_with fail
          refine ⟨trivial, ?_⟩
          gi_wp2
          refine ⟨⟨j + 1, by omega, by simp, by rw [HT4.out]; simp, (g1.alloc _), g2.alloc _, g3.alloc _, g6.trans (hb0.mono g6.size), g7.trans (others_of hb0), g8.trans (Keeps.of_below hb0 (fun k hk => ?_))⟩, by simp [intOf]; omega⟩
          have := hWs
          have := g7.size
          have := Hsz.out
          omega
        | false =>
          gi_wp2_with fail
          refine ⟨trivial, ?_⟩
          refine (CallsIn.inRound L (callsIn_wide.2 (side_any E q he hqok _))).mono ?_
          rintro e w2 ⟨rfl, hb2⟩
          have hb3 : Below wr.heap.size wr w2 := hb0.trans (hb2.mono (by simp))
          clear hb2
          gi_wp2_with (refine ⟨trivial, ?_⟩; gi_at_call 96; refine (CallsIn.inRound L (callsIn_wide.2 (plus_any _ _))).mono ?_; rintro e w3 ⟨rfl, rfl⟩)
          refine ⟨⟨j + 1, by omega, by simp, by rw [HT4.out, pos_sgn]; simp, (g1.belowS hb3), g2.belowS hb3, g3.belowS hb3, g6.trans (hb3.mono g6.size), g7.trans (others_of hb3), g8.trans (Keeps.of_below hb3 (fun k hk => ?_))⟩, by simp [intOf]; omega⟩
          have := hWs
          have := g7.size
          have := Hsz.out
          omega
      · obtain rfl : j = m.length := by omega
        have r0 := g2.cell 0
        have r1 := g2.frozen 0
        simp only [List.getElem?_toArray, List.getElem?_cons_zero] at r0
        rw [List.take_length]
        generalize hF : (m.any fun q => decide (0 < E.side q)) = F
        have HF := Lib.hid hF
        clear hF
        cases F with
        | true =>
          gi_wp2
          refine ⟨g7.from _, g8, g3, g2, ?_, g6⟩
          rw [List.all_append, List.all_cons, HE.out, h4]
          simpa [leftAny] using HF.out
        | false =>
          gi_wp2
          refine ⟨(g7.trans (KeepsOthers.setCell _ _ _)).from _, rfl, g2.set 0 _, ?_, g6.setCell (by simp) _⟩
          have hf : leftAny m E = false := HF.out
          rw [List.all_append, List.all_cons, HE.out, hf]
          simp
  case done =>
    rintro D W hD ⟨h1, h2, h4, h5⟩ hK
    have r2 := h2.cell 0
    have f2 := h2.frozen 0
    have hv : partedL l m = false := by
      unfold partedL
      rw [range_fin, h4]
      rfl
    simp only [List.getElem?_toArray, List.getElem?_cons_zero] at r2
    have HV := Lib.hid hv
    clear hv
    gi_wp2
    have hK' := (KeepsOthers.setCell W ⟨w.heap.size + 1, 0, none⟩ (.bool false)).same D _ hK rfl
    refine ⟨by simp, .inl ⟨_, _, rfl, run_takeDeferred hK', ?_⟩⟩
    have r4 := ((h2.set 0 (.bool false)).putObj (.deferred none) hK' rfl).cell 0
    simp only [List.setIfInBounds_toArray, List.set_cons_zero, List.getElem?_toArray, List.getElem?_cons_zero] at r4
    exact ⟨.bool false, by simp [results, Try.results97, go_sem, r4], by rw [HV.out], below_putObj (h5.setCell (p := ⟨w.heap.size + 1, 0, none⟩) (by simp) _) _ (by have := Hsz.out; omega) (Nat.le_trans h5.size (by simp))⟩
  case stop =>
    rintro D c k W hD hk ⟨rfl, h2, h3, h4⟩ hK
    have r2 := h2.cell 0
    have f2 := h2.frozen 0
    simp only [List.getElem?_toArray, List.getElem?_cons_zero] at r2
    have h3' : partedL l m = true := by
      unfold partedL
      rw [range_fin]
      have : ((List.finRange l.length).all fun k => leftAny m (edgN l k.1)) = false := by
        rw [Bool.eq_false_iff] at h3 ⊢
        exact fun h => h3 (List.all_eq_true.2 (fun x hx => List.all_eq_true.1 h x (List.mem_of_mem_take hx)))
      rw [this]
      rfl
    have H3 := Lib.hid h3'
    clear h3 h3'
    gi_wp2
    refine ⟨by simp, .inl ⟨_, _, rfl, run_takeDeferred hK, ?_⟩⟩
    have r3 := (h2.putObj (.deferred none) hK rfl).cell 0
    simp only [List.getElem?_toArray, List.getElem?_cons_zero] at r3
    exact ⟨.bool true, by simp [results, Try.results97, go_sem, r3], by rw [H3.out], below_putObj h4 _ (by have := Hsz.out; omega) h4.size⟩

theorem isCovered_any (sa sb : Option Addr) (la ca lb cb : Nat) (l m : List Pnt) (w : World) (hs : IsPts w (.slice sa la ca) l) (ht : IsPts w (.slice sb lb cb) m) (hl : l.length ≤ 1000) (hm : m.length ≤ 1000) (hok : okPts l) (hok' : okPts m) :
    Calls Try.prog 64 #[.slice sa la ca, .slice sb lb cb] w fun e w' => e = .returned (.bool (coveredL l m)) ∧ Below w.heap.size w w' := by
  cases hp : partedL l m with
  | true =>
    have hv : coveredL l m = false := by simp [coveredL, hp]
    have HP := Lib.hid hp
    have HV := Lib.hid hv
    clear hp hv
    go_enter Try.func64, Try.ntmps64
    go_wp2_with fail
    refine (isParted_any sa sb la ca lb cb l m _ hs ht hl hm hok hok').mono ?_
    rintro e w1 ⟨rfl, hb1⟩
    rw [HP.out]
    go_wp2
    go_ret
    exact ⟨by rw [HV.out]; rfl, hb1⟩
  | false =>
    have hv : coveredL l m = !partedL m l := by simp [coveredL, hp]
    have HP := Lib.hid hp
    have HV := Lib.hid hv
    clear hp hv
    go_enter Try.func64, Try.ntmps64
    go_wp2_with fail
    refine (isParted_any sa sb la ca lb cb l m _ hs ht hl hm hok hok').mono ?_
    rintro e w1 ⟨rfl, hb1⟩
    rw [HP.out]
    go_wp2_with fail
    refine (isParted_any sb sa lb cb la ca m l _ (ht.below hb1) (hs.below hb1) hm hl hok' hok).mono ?_
    rintro e w2 ⟨rfl, hb2⟩
    go_wp2
    go_ret
    exact ⟨by rw [HV.out]; rfl, hb1.trans (hb2.mono hb1.size)⟩
end Go.Proofs.Ytdjeoheoohacnaa
