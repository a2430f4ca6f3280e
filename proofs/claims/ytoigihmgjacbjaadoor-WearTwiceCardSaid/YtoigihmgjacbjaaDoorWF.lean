/- plane.Inside: above 0 for a point inside of an outline, 0 on its sides, below 0 elsewhere. No condition. -/
import Derived.Test.YtoigihmgjacbjaaDoorWD
import Derived.Stop.RegionWithIn
set_option linter.unusedSimpArgs false
namespace Go.Proofs.YtoigihmgjacbjaaDoor
section
open Go.RowKit Go.Shelf
attribute [local go_sem] Oper.semAt_some

def minF (l : List Pnt) (p : Pnt) (pre : List (Fin l.length)) : Int := pre.foldl (fun m k => min m ((edgN l k.1).side p)) 9223372036854775807
def insM (l : List Pnt) (p : Pnt) : Int := if pointB p = true then minF l p (List.finRange l.length) else -1
def okPts4 (l : List Pnt) : Prop := ∀ p ∈ l, pointB p = true
theorem edgN_ok4 {l : List Pnt} (h : okPts4 l) (k : Nat) : pointB (edgN l k).a = true ∧ pointB (edgN l k).b = true := by
  have hd : pointB ⟨0, 0⟩ = true := by decide
  have : ∀ i : Nat, pointB (l[i]?.getD ⟨0, 0⟩) = true := fun i => by
    by_cases hi : i < l.length
    · rw [List.getElem?_eq_getElem hi]; exact h _ (List.getElem_mem hi)
    · rw [List.getElem?_eq_none (by omega)]; exact hd
  exact ⟨this _, this _⟩
theorem minF_snoc (l : List Pnt) (p : Pnt) (pre : List (Fin l.length)) (x : Fin l.length) : minF l p (pre ++ [x]) = min (minF l p pre) ((edgN l x.1).side p) := by simp [minF]

theorem inside_no (v : Value) (p : Pnt) (w : World) (hp : pointB p = false) :
    Calls Tryd.prog 85 #[v, .agg #[.int .i64 p.x, .int .i64 p.y]] w fun e w' => e = .returned (.int .i64 (-1)) ∧ Below w.heap.size w w' := by
  have hb1 : Below w.heap.size w (w.alloc (.cells #[.int .i64 p.x, .int .i64 p.y] 45)) := (Below.refl _ w).alloc (Nat.le_refl _) _
  go_enter Tryd.func85, Tryd.ntmps85
  go_wp2_with fail
  refine (planePoint_any p _).mono ?_
  rintro e w0 ⟨rfl, hb0⟩
  go_wp2
  go_ret
  exact ⟨rfl, hb1.trans (hb0.mono hb1.size)⟩

set_option maxRecDepth 100000 in
set_option maxHeartbeats 8000000 in
theorem inside_yes (sa : Option Addr) (slen cap : Nat) (l : List Pnt) (p : Pnt) (w : World) (hs : IsPts w (.slice sa slen cap) l) (hl : l.length ≤ 1000) (hok : okPts4 l) (hp : pointB p = true) :
    Calls Tryd.prog 85 #[.slice sa slen cap, .agg #[.int .i64 p.x, .int .i64 p.y]] w fun e w' => e = .returned (.int .i64 (minF l p (List.finRange l.length))) ∧ Below w.heap.size w w' := by
  refine (callsIn_wide (n := 5)).1 ?_
  refine callsIn_of_wp_marks Tryd.func85 rfl trivial ?_ rfl
  simp only [Tryd.ntmps85, List.size_toArray, List.length_cons, List.length_nil, Nat.reduceAdd, Nat.reduceSub, Array.replicate_succ, Array.replicate_zero, List.push_toArray, List.append_toArray, List.nil_append, List.cons_append]
  gi_wp2_with fail
  refine ⟨trivial, ?_⟩
  refine (callsIn_wide.2 (planePoint_any _ _)).mono ?_
  rintro e w0 ⟨rfl, hb0⟩
  gi_wp2_with fail
  refine ⟨trivial, ?_⟩
  refine (callsIn_wide.2 (around_any _ _ _ _)).mono ?_
  rintro e w' ⟨rfl, rfl⟩
  gi_wp2_with fail
  have hb1 : Below w.heap.size w w0 := ((Below.refl _ w).alloc (Nat.le_refl _) _).trans (hb0.mono (by simp))
  have hsz0 : w.heap.size + 1 ≤ w0.heap.size := by have := hb0.size; simp at this; omega
  have bP : Blk ((w0.alloc (.cells #[.int .i64 9223372036854775807] 3)).alloc (.cells #[.slice sa slen cap] 22)) w.heap.size #[.int .i64 p.x, .int .i64 p.y] 45 := (((Blk.new w _ _).belowS hb0).alloc _).alloc _
  have bR := (Blk.new w0 3 #[.int .i64 9223372036854775807]).alloc (.cells #[.slice sa slen cap] 22)
  have bS := Blk.new (w0.alloc (.cells #[.int .i64 9223372036854775807] 3)) 22 #[.slice sa slen cap]
  have hB : Below w.heap.size w ((w0.alloc (.cells #[.int .i64 9223372036854775807] 3)).alloc (.cells #[.slice sa slen cap] 22)) := (hb1.alloc (by omega) _).alloc (by simp; omega) _
  have hsz : ((w0.alloc (.cells #[.int .i64 9223372036854775807] 3)).alloc (.cells #[.slice sa slen cap] 22)).heap.size = w0.heap.size + 2 := by simp
  simp only [World.size_alloc] at bS
  have Hsz := Lib.hid hsz
  obtain ⟨W0, hW0⟩ : ∃ W0, ((w0.alloc (.cells #[.int .i64 9223372036854775807] 3)).alloc (.cells #[.slice sa slen cap] 22)) = W0 := ⟨_, rfl⟩
  rw [hW0] at bP bR bS hB Hsz ⊢
  clear hsz hW0
  refine around_law (n := 5) (by omega) (Bs := w0.heap.size + 1) rfl (fun k => k < w.heap.size ∨ k = w0.heap.size + 1) l hl (.inr rfl) (fun k hk => by have := Hsz.out; omega)
    (bS.cell 0) ?_ rfl
    (fun pre W => Blk W w.heap.size #[.int .i64 p.x, .int .i64 p.y] 45 ∧ Blk W w0.heap.size #[.int .i64 (minF l p pre)] 3 ∧ Below w.heap.size w W)
    (fun _ _ _ => False)
    ((own_blk _ _ _ _).and ((own_blk _ _ _ _).and (ownFrom_below (Nat.le_refl _) (by have := Hsz.out; omega))))
    (fun c => ownFrom_pure _ (fun _ => False))
    ⟨bP, bR, hB⟩
    (fun x Bx => { tmps := #[.slice sa slen cap, .agg #[.int .i64 p.x, .int .i64 p.y], undef, .pointer (some ⟨w.heap.size, 0, none⟩), .int .i64 0, .pointer (some ⟨w0.heap.size, 0, none⟩), .pointer (some ⟨Bx, 0, none⟩), .pointer (some ⟨Bx + 1, 0, none⟩), .agg #[.int .i64 p.x, .int .i64 p.y], .bool true, .bool false, .slice sa slen cap,
        .func (.func 99) #[] #[.pointer (some ⟨w0.heap.size + 1, 0, none⟩)], .agg (pntC (edgN l x.1).a), .agg (pntC (edgN l x.1).b), undef, undef, undef, undef, undef, undef, undef], defers := [] }) ?assign ?body ?done ?stop
  · rcases hs with ⟨h1, h2⟩ | ⟨b, off, c, h1, h2, h3, h4, h5⟩
    · exact .inl ⟨h1, h2⟩
    · exact .inr ⟨b, off, c, h1, .inl h2, h5.below hB h2⟩
  case assign =>
    intro L x W K hK
    unfold pntC encP at *
    gi_wp2
    exact hK
  case body =>
    rintro L pre x Bx W hBx hWs hE1 hE2 ⟨h1, h2, h3⟩ hlt
    have e0 := hE1.cell 0
    have e1 := hE1.cell 1
    have e2 := hE2.cell 0
    have e3 := hE2.cell 1
    have p0 := h1.cell 0
    have p1 := h1.cell 1
    have r0 := h2.cell 0
    have r1 := h2.frozen 0
    obtain ⟨ha, hb⟩ := edgN_ok4 hok x.1
    simp only [pntC, List.getElem?_toArray, List.getElem?_cons_zero, List.getElem?_cons_succ] at e0 e1 e2 e3 p0 p1 r0
    simp only [pntC]
    have hlt1 := h1.lt
    have hlt2 := h2.lt
    have hlt3 := hE1.lt
    have hlt4 := hE2.lt
    have HM := Lib.hid (minF_snoc l p pre x)
    have HL := Lib.hid (fun W' => leftOf_any (edgN l x.1).a (edgN l x.1).b p ha hb hp W')
    have hV0 : (Edg.mk (edgN l x.1).a (edgN l x.1).b).side p = (edgN l x.1).side p := rfl
    generalize (Edg.mk (edgN l x.1).a (edgN l x.1).b).side p = V at *
    rw [← hV0] at HM
    clear hV0 ha hb
    have H1 := Lib.hid h1
    have H3 := Lib.hid h3
    generalize edgN l x.1 = E at *
    generalize minF l p pre = M at *
    have fin : ∀ w2 : World, Below W.drew.heap.size W.drew w2 → KeepsOthers W (w2.setCell ⟨w0.heap.size, 0, none⟩ (.int .i64 (min M V))) ∧ Keeps (fun k => k < w.heap.size ∨ k = w0.heap.size + 1) W (w2.setCell ⟨w0.heap.size, 0, none⟩ (.int .i64 (min M V))) ∧ Blk (w2.setCell ⟨w0.heap.size, 0, none⟩ (.int .i64 (min M V))) w.heap.size #[.int .i64 p.x, .int .i64 p.y] 45 ∧
        Blk (w2.setCell ⟨w0.heap.size, 0, none⟩ (.int .i64 (min M V))) w0.heap.size #[.int .i64 (min M V)] 3 ∧ Below w.heap.size w (w2.setCell ⟨w0.heap.size, 0, none⟩ (.int .i64 (min M V))) := fun w2 hb2 => by
      have hb : Below W.heap.size W w2 := ((Below.refl _ W).drew).trans hb2
      have hkk : ∀ k, (k < w.heap.size ∨ k = w0.heap.size + 1) → k < W.heap.size := fun k hk => by have := Hsz.out; omega
      exact ⟨(others_of hb).trans (KeepsOthers.setCell _ _ _), (Keeps.of_below hb hkk).setCell (fun h => by have h' : w0.heap.size < w.heap.size ∨ w0.heap.size = w0.heap.size + 1 := h; omega) _, (h1.belowS hb).other (by omega) _, (h2.belowS hb).set 0 _, (h3.trans (hb.mono h3.size)).setCell (p := ⟨w0.heap.size, 0, none⟩) (by show w.heap.size ≤ w0.heap.size; omega) _⟩
    have FIN := Lib.hid fin
    have H2 := Lib.hid h2
    clear h1 h3 fin h2 hE1 hE2
    have hmin : min M V = if V < M then V else M := by split <;> omega
    rw [hmin] at FIN HM
    clear hmin
    gi_wp2_with fail
    gi_region_with (refine ⟨trivial, ?_⟩; refine (CallsIn.inRound L (callsIn_wide.2 (HL.out _))).mono ?_; rintro e w2 ⟨rfl, hb2⟩; have k2 := H2.out.drew.belowS hb2; have q0 : w2.cell? ⟨w0.heap.size, 0, none⟩ = some (.int .i64 M) := k2.cell 0; have q1 := k2.frozen 0; have q2 := k2.lt; have HB2 := Lib.hid hb2; clear hb2 k2)
    all_goals
      obtain ⟨s1, s2, s3, s4, s5⟩ := FIN.out _ HB2.out
      exact ⟨s1.from _, s2, s3, by rw [HM.out]; exact s4, s5⟩
  case done =>
    rintro D W hD ⟨h1, h2, h3⟩ hK
    have r2 := h2.cell 0
    have f2 := h2.frozen 0
    have l2 := h2.lt
    simp only [List.getElem?_toArray, List.getElem?_cons_zero] at r2
    generalize hM : minF l p (List.finRange l.length) = M at r2 h2
    have HM := Lib.hid hM
    clear hM
    gi_wp2
    refine ⟨by simp, .inl ⟨_, _, rfl, run_takeDeferred hK, ?_⟩⟩
    exact ⟨.int .i64 M, by simp [results, Tryd.results85, go_sem], by rw [HM.out], below_putObj h3 _ (by have := Hsz.out; omega) h3.size⟩
  case stop =>
    rintro D c k W hD hk h hK
    exact absurd h (by simp)
theorem inside_any (sa : Option Addr) (slen cap : Nat) (l : List Pnt) (p : Pnt) (w : World) (hs : IsPts w (.slice sa slen cap) l) (hl : l.length ≤ 1000) (hok : okPts4 l) :
    Calls Tryd.prog 85 #[.slice sa slen cap, .agg #[.int .i64 p.x, .int .i64 p.y]] w fun e w' => e = .returned (.int .i64 (insM l p)) ∧ Below w.heap.size w w' := by
  unfold insM
  by_cases h : pointB p = true
  · rw [if_pos h]
    exact inside_yes sa slen cap l p w hs hl hok h
  · rw [if_neg h]
    exact inside_no _ p w (by simpa using h)
end
end Go.Proofs.YtoigihmgjacbjaaDoor
