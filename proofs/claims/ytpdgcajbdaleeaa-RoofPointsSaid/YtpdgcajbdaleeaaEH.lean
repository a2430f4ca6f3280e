/- along and like of the specification: edges that have more than one point in common, edges with the same two ends. No condition but the limits of the plan. -/
import Derived.Test.YtpdgcajbdaleeaaED
set_option linter.unusedSimpArgs false
namespace Go.Proofs.Ytpdgcajbdaleeaa
open Go.RowKit

set_option maxRecDepth 100000 in
set_option maxHeartbeats 8000000 in
theorem refLike_any (a b c d : Pnt) (w : World) :
    Calls Try.prog 64 #[.agg #[.int .i64 a.x, .int .i64 a.y], .agg #[.int .i64 b.x, .int .i64 b.y], .agg #[.int .i64 c.x, .int .i64 c.y], .agg #[.int .i64 d.x, .int .i64 d.y]] w fun e w' => e = .returned (.bool (likeB ⟨a, b⟩ ⟨c, d⟩)) ∧ Below w.heap.size w w' := by
  have k1 := (((Blk.new w 27 #[.int .i64 a.x, .int .i64 a.y]).alloc (.cells #[.int .i64 b.x, .int .i64 b.y] 27)).alloc (.cells #[.int .i64 c.x, .int .i64 c.y] 27)).alloc (.cells #[.int .i64 d.x, .int .i64 d.y] 27)
  have k2 := ((Blk.new (w.alloc (.cells #[.int .i64 a.x, .int .i64 a.y] 27)) 27 #[.int .i64 b.x, .int .i64 b.y]).alloc (.cells #[.int .i64 c.x, .int .i64 c.y] 27)).alloc (.cells #[.int .i64 d.x, .int .i64 d.y] 27)
  have k3 := (Blk.new ((w.alloc (.cells #[.int .i64 a.x, .int .i64 a.y] 27)).alloc (.cells #[.int .i64 b.x, .int .i64 b.y] 27)) 27 #[.int .i64 c.x, .int .i64 c.y]).alloc (.cells #[.int .i64 d.x, .int .i64 d.y] 27)
  have k4 := Blk.new (((w.alloc (.cells #[.int .i64 a.x, .int .i64 a.y] 27)).alloc (.cells #[.int .i64 b.x, .int .i64 b.y] 27)).alloc (.cells #[.int .i64 c.x, .int .i64 c.y] 27)) 27 #[.int .i64 d.x, .int .i64 d.y]
  have hb1 : Below w.heap.size w ((((w.alloc (.cells #[.int .i64 a.x, .int .i64 a.y] 27)).alloc (.cells #[.int .i64 b.x, .int .i64 b.y] 27)).alloc (.cells #[.int .i64 c.x, .int .i64 c.y] 27)).alloc (.cells #[.int .i64 d.x, .int .i64 d.y] 27)) := ((((Below.refl _ w).alloc (Nat.le_refl _) _).alloc (by simp) _).alloc (by simp; omega) _).alloc (by simp; omega) _
  simp only [World.size_alloc] at k2 k3 k4
  obtain ⟨d1, h1⟩ : ∃ d1, decide (a = c) = d1 := ⟨_, rfl⟩
  obtain ⟨d2, h2⟩ : ∃ d2, decide (b = d) = d2 := ⟨_, rfl⟩
  obtain ⟨d3, h3⟩ : ∃ d3, decide (a = d) = d3 := ⟨_, rfl⟩
  obtain ⟨d4, h4⟩ : ∃ d4, decide (b = c) = d4 := ⟨_, rfl⟩
  have e1 : ∀ w, (Op.equalIn 10000 27 (.agg #[.int .i64 a.x, .int .i64 a.y]) (.agg #[.int .i64 c.x, .int .i64 c.y])).run Try.prog w = .ok d1 w := fun w => (run_equalIn_at 9998 a c w).trans (by rw [h1])
  have e2 : ∀ w, (Op.equalIn 10000 27 (.agg #[.int .i64 b.x, .int .i64 b.y]) (.agg #[.int .i64 d.x, .int .i64 d.y])).run Try.prog w = .ok d2 w := fun w => (run_equalIn_at 9998 b d w).trans (by rw [h2])
  have e3 : ∀ w, (Op.equalIn 10000 27 (.agg #[.int .i64 a.x, .int .i64 a.y]) (.agg #[.int .i64 d.x, .int .i64 d.y])).run Try.prog w = .ok d3 w := fun w => (run_equalIn_at 9998 a d w).trans (by rw [h3])
  have e4 : ∀ w, (Op.equalIn 10000 27 (.agg #[.int .i64 b.x, .int .i64 b.y]) (.agg #[.int .i64 c.x, .int .i64 c.y])).run Try.prog w = .ok d4 w := fun w => (run_equalIn_at 9998 b c w).trans (by rw [h4])
  have HV0 := Lib.hid (show likeB ⟨a, b⟩ ⟨c, d⟩ = ((d1 && d2) || (d3 && d4)) by simp only [likeB, h1, h2, h3, h4])
  clear h1 h2 h3 h4
  go_enter Try.func64, Try.ntmps64
  go_upto_region 1 with fail
  have HB1 := Lib.hid hb1
  obtain ⟨x0, x1⟩ := And.intro (k1.cell 0) (k1.cell 1)
  simp only [List.getElem?_toArray, List.getElem?_cons_zero, List.getElem?_cons_succ] at x0 x1
  have lx := k1.lt
  obtain ⟨y0, y1⟩ := And.intro (k2.cell 0) (k2.cell 1)
  simp only [List.getElem?_toArray, List.getElem?_cons_zero, List.getElem?_cons_succ] at y0 y1
  have ly := k2.lt
  obtain ⟨z0, z1⟩ := And.intro (k3.cell 0) (k3.cell 1)
  simp only [List.getElem?_toArray, List.getElem?_cons_zero, List.getElem?_cons_succ] at z0 z1
  have lz := k3.lt
  obtain ⟨u0, u1⟩ := And.intro (k4.cell 0) (k4.cell 1)
  simp only [List.getElem?_toArray, List.getElem?_cons_zero, List.getElem?_cons_succ] at u0 u1
  have lu := k4.lt
  generalize ((((w.alloc (.cells #[.int .i64 a.x, .int .i64 a.y] 27)).alloc (.cells #[.int .i64 b.x, .int .i64 b.y] 27)).alloc (.cells #[.int .i64 c.x, .int .i64 c.y] 27)).alloc (.cells #[.int .i64 d.x, .int .i64 d.y] 27)) = w1 at *
  clear hb1 k1 k2 k3 k4
  cases d1 <;> cases d2 <;> cases d3 <;> cases d4
  all_goals
    have HV := Lib.hid HV0.out
    clear HV0
    go_wp2_with fail
    go_ret
    exact ⟨by rw [HV.out]; rfl, HB1.out⟩

set_option maxRecDepth 100000 in
set_option maxHeartbeats 16000000 in
theorem refAlong_any (a b c d : Pnt) (w : World) (ha : a.ok) (hb : b.ok) (hc : c.ok) (hd : d.ok) :
    Calls Try.prog 63 #[.agg #[.int .i64 a.x, .int .i64 a.y], .agg #[.int .i64 b.x, .int .i64 b.y], .agg #[.int .i64 c.x, .int .i64 c.y], .agg #[.int .i64 d.x, .int .i64 d.y]] w fun e w' => e = .returned (.bool (alongX ⟨a, b⟩ ⟨c, d⟩)) ∧ Below w.heap.size w w' := by
  have k1 := (((Blk.new w 27 #[.int .i64 a.x, .int .i64 a.y]).alloc (.cells #[.int .i64 b.x, .int .i64 b.y] 27)).alloc (.cells #[.int .i64 c.x, .int .i64 c.y] 27)).alloc (.cells #[.int .i64 d.x, .int .i64 d.y] 27)
  have k2 := ((Blk.new (w.alloc (.cells #[.int .i64 a.x, .int .i64 a.y] 27)) 27 #[.int .i64 b.x, .int .i64 b.y]).alloc (.cells #[.int .i64 c.x, .int .i64 c.y] 27)).alloc (.cells #[.int .i64 d.x, .int .i64 d.y] 27)
  have k3 := (Blk.new ((w.alloc (.cells #[.int .i64 a.x, .int .i64 a.y] 27)).alloc (.cells #[.int .i64 b.x, .int .i64 b.y] 27)) 27 #[.int .i64 c.x, .int .i64 c.y]).alloc (.cells #[.int .i64 d.x, .int .i64 d.y] 27)
  have k4 := Blk.new (((w.alloc (.cells #[.int .i64 a.x, .int .i64 a.y] 27)).alloc (.cells #[.int .i64 b.x, .int .i64 b.y] 27)).alloc (.cells #[.int .i64 c.x, .int .i64 c.y] 27)) 27 #[.int .i64 d.x, .int .i64 d.y]
  have hb1 : Below w.heap.size w ((((w.alloc (.cells #[.int .i64 a.x, .int .i64 a.y] 27)).alloc (.cells #[.int .i64 b.x, .int .i64 b.y] 27)).alloc (.cells #[.int .i64 c.x, .int .i64 c.y] 27)).alloc (.cells #[.int .i64 d.x, .int .i64 d.y] 27)) := ((((Below.refl _ w).alloc (Nat.le_refl _) _).alloc (by simp) _).alloc (by simp; omega) _).alloc (by simp; omega) _
  simp only [World.size_alloc] at k2 k3 k4
  have HA := Lib.hid ha
  have HBO := Lib.hid hb
  have HC := Lib.hid hc
  have HD := Lib.hid hd
  have hts := subP_sm hb ha
  have hc1 := fun W => refCross_any (subP b a) (subP c a) W hts (subP_sm hc ha)
  have hc2 := fun W => refCross_any (subP b a) (subP d a) W hts (subP_sm hd ha)
  have hx1 := fun W => refDot_any (subP b a) (subP c a) W hts (subP_sm hc ha)
  have hx2 := fun W => refDot_any (subP b a) (subP d a) W hts (subP_sm hd ha)
  have hx3 := fun W => refDot_any (subP b a) (subP b a) W hts hts
  have hal : alongX ⟨a, b⟩ ⟨c, d⟩ = ((decide (crossP (subP b a) (subP c a) = 0) && decide (crossP (subP b a) (subP d a) = 0)) && decide ((if (if dotP (subP b a) (subP c a) < dotP (subP b a) (subP d a) then dotP (subP b a) (subP c a) else dotP (subP b a) (subP d a)) < 0 then 0 else (if dotP (subP b a) (subP c a) < dotP (subP b a) (subP d a) then dotP (subP b a) (subP c a) else dotP (subP b a) (subP d a))) < (if dotP (subP b a) (subP b a) < (if dotP (subP b a) (subP c a) < dotP (subP b a) (subP d a) then dotP (subP b a) (subP d a) else dotP (subP b a) (subP c a)) then dotP (subP b a) (subP b a) else (if dotP (subP b a) (subP c a) < dotP (subP b a) (subP d a) then dotP (subP b a) (subP d a) else dotP (subP b a) (subP c a))))) := rfl
  obtain ⟨C1, hC1⟩ : ∃ C1, crossP (subP b a) (subP c a) = C1 := ⟨_, rfl⟩
  obtain ⟨C2, hC2⟩ : ∃ C2, crossP (subP b a) (subP d a) = C2 := ⟨_, rfl⟩
  obtain ⟨X, hX⟩ : ∃ X, dotP (subP b a) (subP c a) = X := ⟨_, rfl⟩
  obtain ⟨Y, hY⟩ : ∃ Y, dotP (subP b a) (subP d a) = Y := ⟨_, rfl⟩
  obtain ⟨T, hT⟩ : ∃ T, dotP (subP b a) (subP b a) = T := ⟨_, rfl⟩
  rw [hC1, hC2, hX, hY, hT] at hal
  simp only [hC1] at hc1
  simp only [hC2] at hc2
  simp only [hX] at hx1
  simp only [hY] at hx2
  simp only [hT] at hx3
  have HAL := Lib.hid hal
  have hmt := fun W => refMinus_any b a W hb ha
  obtain ⟨t, ht⟩ : ∃ t, subP b a = t := ⟨_, rfl⟩
  rw [ht] at hc1 hc2 hx1 hx2 hx3
  simp only [ht] at hmt
  have HMT := Lib.hid hmt
  have HC1 := Lib.hid hc1
  have HC2 := Lib.hid hc2
  have HX1 := Lib.hid hx1
  have HX2 := Lib.hid hx2
  have HX3 := Lib.hid hx3
  clear ha hb hc hd hts hc1 hc2 hx1 hx2 hx3 hal hC1 hC2 hX hY hT hmt ht
  go_enter Try.func63, Try.ntmps63
  go_upto_region 1 with fail
  generalize ((((w.alloc (.cells #[.int .i64 a.x, .int .i64 a.y] 27)).alloc (.cells #[.int .i64 b.x, .int .i64 b.y] 27)).alloc (.cells #[.int .i64 c.x, .int .i64 c.y] 27)).alloc (.cells #[.int .i64 d.x, .int .i64 d.y] 27)) = w1 at *
  have K1 := Lib.hid k1
  have K3 := Lib.hid k3
  have K4 := Lib.hid k4
  have HB1 := Lib.hid hb1
  obtain ⟨x0, x1⟩ := And.intro (k1.cell 0) (k1.cell 1)
  simp only [List.getElem?_toArray, List.getElem?_cons_zero, List.getElem?_cons_succ] at x0 x1
  have lx := k1.lt
  obtain ⟨y0, y1⟩ := And.intro (k2.cell 0) (k2.cell 1)
  simp only [List.getElem?_toArray, List.getElem?_cons_zero, List.getElem?_cons_succ] at y0 y1
  have ly := k2.lt
  clear k1 k2 k3 k4 hb1
  go_wp2_with fail
  refine (HMT.out w1).mono ?_
  rintro e w3 ⟨rfl, hb3⟩
  have HB3 := Lib.hid hb3
  clear hb3 x0 x1 lx y0 y1 ly HMT
  go_upto_region 2 with fail
  have kT := Blk.new w3 27 #[.int .i64 t.x, .int .i64 t.y]
  have hb4 : Below w3.heap.size w3 (w3.alloc (.cells #[.int .i64 t.x, .int .i64 t.y] 27)) := (Below.refl _ _).alloc (Nat.le_refl _) _
  have HB4 := Lib.hid (HB3.out.trans (hb4.mono HB3.out.size))
  generalize w3.alloc (.cells #[.int .i64 t.x, .int .i64 t.y] 27) = w4 at *
  have q1 := K1.out.belowS HB4.out
  have q3 := K3.out.belowS HB4.out
  have q4 := K4.out.belowS HB4.out
  have hx0 : ∀ W, Below w4.heap.size w4 W → (fun w' : World => w'.cell? ⟨w3.heap.size, 0, none⟩ = some (.int .i64 t.x) ∧ w'.cell? ⟨w3.heap.size, 1, none⟩ = some (.int .i64 t.y) ∧ w'.cell? ⟨w.heap.size, 0, none⟩ = some (.int .i64 a.x) ∧ w'.cell? ⟨w.heap.size, 1, none⟩ = some (.int .i64 a.y) ∧ w'.cell? ⟨w.heap.size + 1 + 1, 0, none⟩ = some (.int .i64 c.x) ∧ w'.cell? ⟨w.heap.size + 1 + 1, 1, none⟩ = some (.int .i64 c.y) ∧ w'.cell? ⟨w.heap.size + 1 + 1 + 1, 0, none⟩ = some (.int .i64 d.x) ∧ w'.cell? ⟨w.heap.size + 1 + 1 + 1, 1, none⟩ = some (.int .i64 d.y)) W := fun W h => ⟨(h.cell (p := ⟨w3.heap.size, 0, none⟩) kT.lt).trans (kT.cell 0), (h.cell (p := ⟨w3.heap.size, 1, none⟩) kT.lt).trans (kT.cell 1), (h.cell (p := ⟨w.heap.size, 0, none⟩) q1.lt).trans (q1.cell 0), (h.cell (p := ⟨w.heap.size, 1, none⟩) q1.lt).trans (q1.cell 1), (h.cell (p := ⟨w.heap.size + 1 + 1, 0, none⟩) q3.lt).trans (q3.cell 0), (h.cell (p := ⟨w.heap.size + 1 + 1, 1, none⟩) q3.lt).trans (q3.cell 1), (h.cell (p := ⟨w.heap.size + 1 + 1 + 1, 0, none⟩) q4.lt).trans (q4.cell 0), (h.cell (p := ⟨w.heap.size + 1 + 1 + 1, 1, none⟩) q4.lt).trans (q4.cell 1)⟩
  have HX := Lib.hid hx0
  have HBA := Lib.hid (HB1.out.trans (HB4.out.mono HB1.out.size))
  have HKT := Lib.hid kT
  clear hx0 q1 q3 q4 kT hb4
  by_cases hC0 : C1 = 0
  rotate_left
  · have z : (C1 != 0) = true := by simpa using hC0
    have HV := Lib.hid (show alongX ⟨a, b⟩ ⟨c, d⟩ = false by rw [HAL.out]; simp [hC0])
    go_upto_region 2 with fail
    refine wp_region_E 14 (fun w' => w'.cell? ⟨w3.heap.size, 0, none⟩ = some (.int .i64 t.x) ∧ w'.cell? ⟨w3.heap.size, 1, none⟩ = some (.int .i64 t.y) ∧ w'.cell? ⟨w.heap.size, 0, none⟩ = some (.int .i64 a.x) ∧ w'.cell? ⟨w.heap.size, 1, none⟩ = some (.int .i64 a.y) ∧ w'.cell? ⟨w.heap.size + 1 + 1, 0, none⟩ = some (.int .i64 c.x) ∧ w'.cell? ⟨w.heap.size + 1 + 1, 1, none⟩ = some (.int .i64 c.y) ∧ w'.cell? ⟨w.heap.size + 1 + 1 + 1, 0, none⟩ = some (.int .i64 d.x) ∧ w'.cell? ⟨w.heap.size + 1 + 1 + 1, 1, none⟩ = some (.int .i64 d.y)) (by kernel_rfl) ?_
    have Bb0 := Lib.hid ((Below.refl w4.heap.size w4).drew)
    have hb0 := HX.out w4.drew Bb0.out
    refine E_takeR (i := 0) (oi := _) (v := ?v1) rfl (by kernel_rfl) (by kernel_rfl) (by kernel_rfl) (by decide) (fun _ _ _ h => h) hb0 (Or.inl ⟨by rfl, ?y1⟩) ?r1
    case y1 => (intro w' hSw; (try dsimp only at hSw); go_simp; try with_reducible rfl)
    try simp only [Act.put, List.getElem_toArray, List.getElem_cons_zero, List.getElem_cons_succ, List.setIfInBounds_toArray, List.set_cons_zero, List.set_cons_succ]
    refine E_takeR (i := 1) (oi := _) (v := ?v2) rfl (by kernel_rfl) (by kernel_rfl) (by kernel_rfl) (by decide) (fun _ _ _ h => h) hb0 (Or.inl ⟨by rfl, ?y2⟩) ?r2
    case y2 => (intro w' hSw; (try dsimp only at hSw); go_simp; try with_reducible rfl)
    try simp only [Act.put, List.getElem_toArray, List.getElem_cons_zero, List.getElem_cons_succ, List.setIfInBounds_toArray, List.set_cons_zero, List.set_cons_succ]
    refine E_takeR (i := 2) (oi := _) (v := ?v3) rfl (by kernel_rfl) (by kernel_rfl) (by kernel_rfl) (by decide) (fun _ _ _ h => h) hb0 (Or.inl ⟨by rfl, ?y3⟩) ?r3
    case y3 => (intro w' hSw; (try dsimp only at hSw); go_simp; try with_reducible rfl)
    try simp only [Act.put, List.getElem_toArray, List.getElem_cons_zero, List.getElem_cons_succ, List.setIfInBounds_toArray, List.set_cons_zero, List.set_cons_succ]
    refine E_step (i := 3) (o := _) (by kernel_rfl) rfl (fun K hK => ?_)
    go_simp
    refine (refMinus_any c a w4.drew HC.out HA.out).mono ?_
    rintro e wb1 ⟨rfl, hbb1⟩
    dsimp only
    have Bwb1 := Lib.hid (Bb0.out.trans (hbb1.mono Bb0.out.size))
    have hwb1 := HX.out wb1 Bwb1.out
    refine hK.out _ _ (fun h => hwb1) ?_
    clear hK K hbb1
    try simp only [Act.put, List.getElem_toArray, List.getElem_cons_zero, List.getElem_cons_succ, List.setIfInBounds_toArray, List.set_cons_zero, List.set_cons_succ]
    refine E_step (i := 4) (o := _) (by kernel_rfl) rfl (fun K hK => ?_)
    go_simp
    refine (HC1.out wb1).mono ?_
    rintro e wb2 ⟨rfl, hbb2⟩
    dsimp only
    have Bwb2 := Lib.hid (Bwb1.out.trans (hbb2.mono Bwb1.out.size))
    have hwb2 := HX.out wb2 Bwb2.out
    refine hK.out _ _ (fun h => hwb2) ?_
    clear hK K hbb2
    try simp only [Act.put, List.getElem_toArray, List.getElem_cons_zero, List.getElem_cons_succ, List.setIfInBounds_toArray, List.set_cons_zero, List.set_cons_succ]
    refine E_step (i := 5) (o := _) (by kernel_rfl) rfl (fun K hK => ?_)
    go_simp
    refine hK.out _ _ (fun h => hwb2) ?_
    clear hK K
    try simp only [Act.put, List.getElem_toArray, List.getElem_cons_zero, List.getElem_cons_succ, List.setIfInBounds_toArray, List.set_cons_zero, List.set_cons_succ]
    try rw [z]
    refine E_step (i := 6) (o := _) (by kernel_rfl) rfl (fun K hK => ?_)
    go_simp
    refine hK.out _ _ (fun h => hwb2) ?_
    clear hK K
    try simp only [Act.put, List.getElem_toArray, List.getElem_cons_zero, List.getElem_cons_succ, List.setIfInBounds_toArray, List.set_cons_zero, List.set_cons_succ]
    refine E_takeR (i := 7) (oi := _) (v := undef) rfl (by kernel_rfl) (by kernel_rfl) (by kernel_rfl) (by decide) (fun _ _ _ h => h) hwb2 (Or.inr ⟨by rfl, rfl⟩) ?_
    try simp only [Act.put, List.getElem_toArray, List.getElem_cons_zero, List.getElem_cons_succ, List.setIfInBounds_toArray, List.set_cons_zero, List.set_cons_succ]
    refine E_takeR (i := 8) (oi := _) (v := undef) rfl (by kernel_rfl) (by kernel_rfl) (by kernel_rfl) (by decide) (fun _ _ _ h => h) hwb2 (Or.inr ⟨by rfl, rfl⟩) ?_
    try simp only [Act.put, List.getElem_toArray, List.getElem_cons_zero, List.getElem_cons_succ, List.setIfInBounds_toArray, List.set_cons_zero, List.set_cons_succ]
    refine E_takeR (i := 9) (oi := _) (v := undef) rfl (by kernel_rfl) (by kernel_rfl) (by kernel_rfl) (by decide) (fun _ _ _ h => h) hwb2 (Or.inr ⟨by rfl, rfl⟩) ?_
    try simp only [Act.put, List.getElem_toArray, List.getElem_cons_zero, List.getElem_cons_succ, List.setIfInBounds_toArray, List.set_cons_zero, List.set_cons_succ]
    refine E_step (i := 10) (o := _) (by kernel_rfl) rfl (fun K hK => ?_)
    go_simp
    refine hK.out _ _ (fun h => hwb2) ?_
    clear hK K
    try simp only [Act.put, List.getElem_toArray, List.getElem_cons_zero, List.getElem_cons_succ, List.setIfInBounds_toArray, List.set_cons_zero, List.set_cons_succ]
    refine E_step (i := 11) (o := _) (by kernel_rfl) rfl (fun K hK => ?_)
    go_simp
    refine hK.out _ _ (fun h => hwb2) ?_
    clear hK K
    try simp only [Act.put, List.getElem_toArray, List.getElem_cons_zero, List.getElem_cons_succ, List.setIfInBounds_toArray, List.set_cons_zero, List.set_cons_succ]
    refine E_step (i := 12) (o := _) (by kernel_rfl) rfl (fun K hK => ?_)
    go_simp
    refine hK.out _ _ (fun h => hwb2) ?_
    clear hK K
    try simp only [Act.put, List.getElem_toArray, List.getElem_cons_zero, List.getElem_cons_succ, List.setIfInBounds_toArray, List.set_cons_zero, List.set_cons_succ]
    refine E_step (i := 13) (o := _) (by kernel_rfl) rfl (fun K hK => ?_)
    go_simp
    refine hK.out _ _ (fun h => hwb2) ?_
    clear hK K
    try simp only [Act.put, List.getElem_toArray, List.getElem_cons_zero, List.getElem_cons_succ, List.setIfInBounds_toArray, List.set_cons_zero, List.set_cons_succ]
    refine E_done (by kernel_rfl) ?_ _
    clear hb0 hwb1 hwb2
    have HBZ := Lib.hid (HBA.out.trans (Bwb2.out.mono HBA.out.size))
    go_wp2_with fail
    go_ret
    exact ⟨by rw [HV.out]; try rfl, HBZ.out⟩
  have z : (C1 != 0) = false := by simpa using hC0
  obtain ⟨b2, hb2⟩ : ∃ b2, (C2 != 0) = b2 := ⟨_, rfl⟩
  have z2 := hb2
  go_upto_region 2 with fail
  refine wp_region_E 14 (fun w' => w'.cell? ⟨w3.heap.size, 0, none⟩ = some (.int .i64 t.x) ∧ w'.cell? ⟨w3.heap.size, 1, none⟩ = some (.int .i64 t.y) ∧ w'.cell? ⟨w.heap.size, 0, none⟩ = some (.int .i64 a.x) ∧ w'.cell? ⟨w.heap.size, 1, none⟩ = some (.int .i64 a.y) ∧ w'.cell? ⟨w.heap.size + 1 + 1, 0, none⟩ = some (.int .i64 c.x) ∧ w'.cell? ⟨w.heap.size + 1 + 1, 1, none⟩ = some (.int .i64 c.y) ∧ w'.cell? ⟨w.heap.size + 1 + 1 + 1, 0, none⟩ = some (.int .i64 d.x) ∧ w'.cell? ⟨w.heap.size + 1 + 1 + 1, 1, none⟩ = some (.int .i64 d.y)) (by kernel_rfl) ?_
  have Ba0 := Lib.hid ((Below.refl w4.heap.size w4).drew)
  have ha0 := HX.out w4.drew Ba0.out
  refine E_takeR (i := 0) (oi := _) (v := ?v4) rfl (by kernel_rfl) (by kernel_rfl) (by kernel_rfl) (by decide) (fun _ _ _ h => h) ha0 (Or.inl ⟨by rfl, ?y4⟩) ?r4
  case y4 => (intro w' hSw; (try dsimp only at hSw); go_simp; try with_reducible rfl)
  try simp only [Act.put, List.getElem_toArray, List.getElem_cons_zero, List.getElem_cons_succ, List.setIfInBounds_toArray, List.set_cons_zero, List.set_cons_succ]
  refine E_takeR (i := 1) (oi := _) (v := ?v5) rfl (by kernel_rfl) (by kernel_rfl) (by kernel_rfl) (by decide) (fun _ _ _ h => h) ha0 (Or.inl ⟨by rfl, ?y5⟩) ?r5
  case y5 => (intro w' hSw; (try dsimp only at hSw); go_simp; try with_reducible rfl)
  try simp only [Act.put, List.getElem_toArray, List.getElem_cons_zero, List.getElem_cons_succ, List.setIfInBounds_toArray, List.set_cons_zero, List.set_cons_succ]
  refine E_takeR (i := 2) (oi := _) (v := ?v6) rfl (by kernel_rfl) (by kernel_rfl) (by kernel_rfl) (by decide) (fun _ _ _ h => h) ha0 (Or.inl ⟨by rfl, ?y6⟩) ?r6
  case y6 => (intro w' hSw; (try dsimp only at hSw); go_simp; try with_reducible rfl)
  try simp only [Act.put, List.getElem_toArray, List.getElem_cons_zero, List.getElem_cons_succ, List.setIfInBounds_toArray, List.set_cons_zero, List.set_cons_succ]
  refine E_step (i := 3) (o := _) (by kernel_rfl) rfl (fun K hK => ?_)
  go_simp
  refine (refMinus_any c a w4.drew HC.out HA.out).mono ?_
  rintro e wa1 ⟨rfl, hba1⟩
  dsimp only
  have Bwa1 := Lib.hid (Ba0.out.trans (hba1.mono Ba0.out.size))
  have hwa1 := HX.out wa1 Bwa1.out
  refine hK.out _ _ (fun h => hwa1) ?_
  clear hK K hba1
  try simp only [Act.put, List.getElem_toArray, List.getElem_cons_zero, List.getElem_cons_succ, List.setIfInBounds_toArray, List.set_cons_zero, List.set_cons_succ]
  refine E_step (i := 4) (o := _) (by kernel_rfl) rfl (fun K hK => ?_)
  go_simp
  refine (HC1.out wa1).mono ?_
  rintro e wa2 ⟨rfl, hba2⟩
  dsimp only
  have Bwa2 := Lib.hid (Bwa1.out.trans (hba2.mono Bwa1.out.size))
  have hwa2 := HX.out wa2 Bwa2.out
  refine hK.out _ _ (fun h => hwa2) ?_
  clear hK K hba2
  try simp only [Act.put, List.getElem_toArray, List.getElem_cons_zero, List.getElem_cons_succ, List.setIfInBounds_toArray, List.set_cons_zero, List.set_cons_succ]
  refine E_step (i := 5) (o := _) (by kernel_rfl) rfl (fun K hK => ?_)
  go_simp
  refine hK.out _ _ (fun h => hwa2) ?_
  clear hK K
  try simp only [Act.put, List.getElem_toArray, List.getElem_cons_zero, List.getElem_cons_succ, List.setIfInBounds_toArray, List.set_cons_zero, List.set_cons_succ]
  try rw [z]
  refine E_step (i := 6) (o := _) (by kernel_rfl) rfl (fun K hK => ?_)
  go_simp
  refine hK.out _ _ (fun h => hwa2) ?_
  clear hK K
  try simp only [Act.put, List.getElem_toArray, List.getElem_cons_zero, List.getElem_cons_succ, List.setIfInBounds_toArray, List.set_cons_zero, List.set_cons_succ]
  refine E_takeR (i := 7) (oi := _) (v := ?v7) rfl (by kernel_rfl) (by kernel_rfl) (by kernel_rfl) (by decide) (fun _ _ _ h => h) hwa2 (Or.inl ⟨by rfl, ?y7⟩) ?r7
  case y7 => (intro w' hSw; (try dsimp only at hSw); go_simp; try with_reducible rfl)
  try simp only [Act.put, List.getElem_toArray, List.getElem_cons_zero, List.getElem_cons_succ, List.setIfInBounds_toArray, List.set_cons_zero, List.set_cons_succ]
  refine E_takeR (i := 8) (oi := _) (v := ?v8) rfl (by kernel_rfl) (by kernel_rfl) (by kernel_rfl) (by decide) (fun _ _ _ h => h) hwa2 (Or.inl ⟨by rfl, ?y8⟩) ?r8
  case y8 => (intro w' hSw; (try dsimp only at hSw); go_simp; try with_reducible rfl)
  try simp only [Act.put, List.getElem_toArray, List.getElem_cons_zero, List.getElem_cons_succ, List.setIfInBounds_toArray, List.set_cons_zero, List.set_cons_succ]
  refine E_takeR (i := 9) (oi := _) (v := ?v9) rfl (by kernel_rfl) (by kernel_rfl) (by kernel_rfl) (by decide) (fun _ _ _ h => h) hwa2 (Or.inl ⟨by rfl, ?y9⟩) ?r9
  case y9 => (intro w' hSw; (try dsimp only at hSw); go_simp; try with_reducible rfl)
  try simp only [Act.put, List.getElem_toArray, List.getElem_cons_zero, List.getElem_cons_succ, List.setIfInBounds_toArray, List.set_cons_zero, List.set_cons_succ]
  refine E_step (i := 10) (o := _) (by kernel_rfl) rfl (fun K hK => ?_)
  go_simp
  refine (refMinus_any d a wa2 HD.out HA.out).mono ?_
  rintro e wa3 ⟨rfl, hba3⟩
  dsimp only
  have Bwa3 := Lib.hid (Bwa2.out.trans (hba3.mono Bwa2.out.size))
  have hwa3 := HX.out wa3 Bwa3.out
  refine hK.out _ _ (fun h => hwa3) ?_
  clear hK K hba3
  try simp only [Act.put, List.getElem_toArray, List.getElem_cons_zero, List.getElem_cons_succ, List.setIfInBounds_toArray, List.set_cons_zero, List.set_cons_succ]
  refine E_step (i := 11) (o := _) (by kernel_rfl) rfl (fun K hK => ?_)
  go_simp
  refine (HC2.out wa3).mono ?_
  rintro e wa4 ⟨rfl, hba4⟩
  dsimp only
  have Bwa4 := Lib.hid (Bwa3.out.trans (hba4.mono Bwa3.out.size))
  have hwa4 := HX.out wa4 Bwa4.out
  refine hK.out _ _ (fun h => hwa4) ?_
  clear hK K hba4
  try simp only [Act.put, List.getElem_toArray, List.getElem_cons_zero, List.getElem_cons_succ, List.setIfInBounds_toArray, List.set_cons_zero, List.set_cons_succ]
  refine E_step (i := 12) (o := _) (by kernel_rfl) rfl (fun K hK => ?_)
  go_simp
  refine hK.out _ _ (fun h => hwa4) ?_
  clear hK K
  try simp only [Act.put, List.getElem_toArray, List.getElem_cons_zero, List.getElem_cons_succ, List.setIfInBounds_toArray, List.set_cons_zero, List.set_cons_succ]
  try rw [z2]
  refine E_step (i := 13) (o := _) (by kernel_rfl) rfl (fun K hK => ?_)
  go_simp
  refine hK.out _ _ (fun h => hwa4) ?_
  clear hK K
  try simp only [Act.put, List.getElem_toArray, List.getElem_cons_zero, List.getElem_cons_succ, List.setIfInBounds_toArray, List.set_cons_zero, List.set_cons_succ]
  refine E_done (by kernel_rfl) ?_ _
  clear ha0 hwa1 hwa2 hwa3 hwa4
  have HB5 := Lib.hid Bwa4.out
  cases b2 with
  | true =>
    have HV := Lib.hid (show alongX ⟨a, b⟩ ⟨c, d⟩ = false by rw [HAL.out]; simp at hb2; simp [hb2])
    have HBZ := Lib.hid (HBA.out.trans (HB5.out.mono HBA.out.size))
    go_wp2_with fail
    go_ret
    exact ⟨by rw [HV.out]; try rfl, HBZ.out⟩
  | false =>
  have HAM := Lib.hid (show alongX ⟨a, b⟩ ⟨c, d⟩ = decide ((if (if X < Y then X else Y) < 0 then 0 else (if X < Y then X else Y)) < (if T < (if X < Y then Y else X) then T else (if X < Y then Y else X))) by
    rw [HAL.out, hC0, show C2 = 0 by simpa using hb2]
    simp)
  clear z z2 hb2 hC0
  go_wp2_with fail
  obtain ⟨w5, hw5⟩ : ∃ w5, wa4 = w5 := ⟨_, rfl⟩
  rw [hw5] at HB5 ⊢
  clear hw5
  have HXB := Lib.hid (fun W (h : Below w5.heap.size w5 W) => HX.out W (HB5.out.trans (h.mono HB5.out.size)))
  go_upto_region 4 with fail
  refine wp_region_E 12 (fun w' => w'.cell? ⟨w3.heap.size, 0, none⟩ = some (.int .i64 t.x) ∧ w'.cell? ⟨w3.heap.size, 1, none⟩ = some (.int .i64 t.y) ∧ w'.cell? ⟨w.heap.size, 0, none⟩ = some (.int .i64 a.x) ∧ w'.cell? ⟨w.heap.size, 1, none⟩ = some (.int .i64 a.y) ∧ w'.cell? ⟨w.heap.size + 1 + 1, 0, none⟩ = some (.int .i64 c.x) ∧ w'.cell? ⟨w.heap.size + 1 + 1, 1, none⟩ = some (.int .i64 c.y) ∧ w'.cell? ⟨w.heap.size + 1 + 1 + 1, 0, none⟩ = some (.int .i64 d.x) ∧ w'.cell? ⟨w.heap.size + 1 + 1 + 1, 1, none⟩ = some (.int .i64 d.y)) (by kernel_rfl) ?_
  have Bd0 := Lib.hid ((Below.refl w5.heap.size w5).drew)
  have hd0 := HXB.out w5.drew Bd0.out
  refine E_takeR (i := 0) (oi := _) (v := ?v10) rfl (by kernel_rfl) (by kernel_rfl) (by kernel_rfl) (by decide) (fun _ _ _ h => h) hd0 (Or.inl ⟨by rfl, ?y10⟩) ?r10
  case y10 => (intro w' hSw; (try dsimp only at hSw); go_simp; try with_reducible rfl)
  try simp only [Act.put, List.getElem_toArray, List.getElem_cons_zero, List.getElem_cons_succ, List.setIfInBounds_toArray, List.set_cons_zero, List.set_cons_succ]
  refine E_takeR (i := 1) (oi := _) (v := ?v11) rfl (by kernel_rfl) (by kernel_rfl) (by kernel_rfl) (by decide) (fun _ _ _ h => h) hd0 (Or.inl ⟨by rfl, ?y11⟩) ?r11
  case y11 => (intro w' hSw; (try dsimp only at hSw); go_simp; try with_reducible rfl)
  try simp only [Act.put, List.getElem_toArray, List.getElem_cons_zero, List.getElem_cons_succ, List.setIfInBounds_toArray, List.set_cons_zero, List.set_cons_succ]
  refine E_takeR (i := 2) (oi := _) (v := ?v12) rfl (by kernel_rfl) (by kernel_rfl) (by kernel_rfl) (by decide) (fun _ _ _ h => h) hd0 (Or.inl ⟨by rfl, ?y12⟩) ?r12
  case y12 => (intro w' hSw; (try dsimp only at hSw); go_simp; try with_reducible rfl)
  try simp only [Act.put, List.getElem_toArray, List.getElem_cons_zero, List.getElem_cons_succ, List.setIfInBounds_toArray, List.set_cons_zero, List.set_cons_succ]
  refine E_takeR (i := 5) (oi := _) (v := ?v13) rfl (by kernel_rfl) (by kernel_rfl) (by kernel_rfl) (by decide) (fun _ _ _ h => h) hd0 (Or.inl ⟨by rfl, ?y13⟩) ?r13
  case y13 => (intro w' hSw; (try dsimp only at hSw); go_simp; try with_reducible rfl)
  try simp only [Act.put, List.getElem_toArray, List.getElem_cons_zero, List.getElem_cons_succ, List.setIfInBounds_toArray, List.set_cons_zero, List.set_cons_succ]
  refine E_takeR (i := 6) (oi := _) (v := ?v14) rfl (by kernel_rfl) (by kernel_rfl) (by kernel_rfl) (by decide) (fun _ _ _ h => h) hd0 (Or.inl ⟨by rfl, ?y14⟩) ?r14
  case y14 => (intro w' hSw; (try dsimp only at hSw); go_simp; try with_reducible rfl)
  try simp only [Act.put, List.getElem_toArray, List.getElem_cons_zero, List.getElem_cons_succ, List.setIfInBounds_toArray, List.set_cons_zero, List.set_cons_succ]
  refine E_takeR (i := 7) (oi := _) (v := ?v15) rfl (by kernel_rfl) (by kernel_rfl) (by kernel_rfl) (by decide) (fun _ _ _ h => h) hd0 (Or.inl ⟨by rfl, ?y15⟩) ?r15
  case y15 => (intro w' hSw; (try dsimp only at hSw); go_simp; try with_reducible rfl)
  try simp only [Act.put, List.getElem_toArray, List.getElem_cons_zero, List.getElem_cons_succ, List.setIfInBounds_toArray, List.set_cons_zero, List.set_cons_succ]
  refine E_step (i := 3) (o := _) (by kernel_rfl) rfl (fun K hK => ?_)
  go_simp
  refine (refMinus_any c a w5.drew HC.out HA.out).mono ?_
  rintro e wd1 ⟨rfl, hbd1⟩
  dsimp only
  have Bwd1 := Lib.hid (Bd0.out.trans (hbd1.mono Bd0.out.size))
  have hwd1 := HXB.out wd1 Bwd1.out
  refine hK.out _ _ (fun h => hwd1) ?_
  clear hK K hbd1
  try simp only [Act.put, List.getElem_toArray, List.getElem_cons_zero, List.getElem_cons_succ, List.setIfInBounds_toArray, List.set_cons_zero, List.set_cons_succ]
  refine E_step (i := 4) (o := _) (by kernel_rfl) rfl (fun K hK => ?_)
  go_simp
  refine (HX1.out wd1).mono ?_
  rintro e wd2 ⟨rfl, hbd2⟩
  dsimp only
  have Bwd2 := Lib.hid (Bwd1.out.trans (hbd2.mono Bwd1.out.size))
  have hwd2 := HXB.out wd2 Bwd2.out
  refine hK.out _ _ (fun h => hwd2) ?_
  clear hK K hbd2
  try simp only [Act.put, List.getElem_toArray, List.getElem_cons_zero, List.getElem_cons_succ, List.setIfInBounds_toArray, List.set_cons_zero, List.set_cons_succ]
  refine E_step (i := 8) (o := _) (by kernel_rfl) rfl (fun K hK => ?_)
  go_simp
  refine (refMinus_any d a wd2 HD.out HA.out).mono ?_
  rintro e wd3 ⟨rfl, hbd3⟩
  dsimp only
  have Bwd3 := Lib.hid (Bwd2.out.trans (hbd3.mono Bwd2.out.size))
  have hwd3 := HXB.out wd3 Bwd3.out
  refine hK.out _ _ (fun h => hwd3) ?_
  clear hK K hbd3
  try simp only [Act.put, List.getElem_toArray, List.getElem_cons_zero, List.getElem_cons_succ, List.setIfInBounds_toArray, List.set_cons_zero, List.set_cons_succ]
  refine E_step (i := 9) (o := _) (by kernel_rfl) rfl (fun K hK => ?_)
  go_simp
  refine (HX2.out wd3).mono ?_
  rintro e wd4 ⟨rfl, hbd4⟩
  dsimp only
  have Bwd4 := Lib.hid (Bwd3.out.trans (hbd4.mono Bwd3.out.size))
  have hwd4 := HXB.out wd4 Bwd4.out
  refine hK.out _ _ (fun h => hwd4) ?_
  clear hK K hbd4
  try simp only [Act.put, List.getElem_toArray, List.getElem_cons_zero, List.getElem_cons_succ, List.setIfInBounds_toArray, List.set_cons_zero, List.set_cons_succ]
  refine E_step (i := 10) (o := _) (by kernel_rfl) rfl (fun K hK => ?_)
  go_simp
  refine hK.out _ _ (fun h => hwd4) ?_
  clear hK K
  try simp only [Act.put, List.getElem_toArray, List.getElem_cons_zero, List.getElem_cons_succ, List.setIfInBounds_toArray, List.set_cons_zero, List.set_cons_succ]
  refine E_step (i := 11) (o := _) (by kernel_rfl) rfl (fun K hK => ?_)
  go_simp
  refine hK.out _ _ (fun h => hwd4) ?_
  clear hK K
  try simp only [Act.put, List.getElem_toArray, List.getElem_cons_zero, List.getElem_cons_succ, List.setIfInBounds_toArray, List.set_cons_zero, List.set_cons_succ]
  refine E_done (by kernel_rfl) ?_ _
  clear hd0 hwd1 hwd2 hwd3 hwd4
  have HB6 := Lib.hid (HB5.out.trans (Bwd4.out.mono HB5.out.size))
  obtain ⟨w6, hw6⟩ : ∃ w6, wd4 = w6 := ⟨_, rfl⟩
  rw [hw6] at HB6 ⊢
  clear hw6
  have kt6 := HKT.out.belowS HB6.out
  obtain ⟨t0, t1⟩ := And.intro (kt6.cell 0) (kt6.cell 1)
  simp only [List.getElem?_toArray, List.getElem?_cons_zero, List.getElem?_cons_succ] at t0 t1
  have lt6 := kt6.lt
  have HBY := Lib.hid (HBA.out.trans (HB6.out.mono HBA.out.size))
  clear kt6
  by_cases g1 : X < Y
  all_goals by_cases g2 : (if X < Y then X else Y) < 0
  all_goals by_cases g3 : T < (if X < Y then Y else X)
  all_goals simp only [g1, if_true, if_false] at g2 g3
  all_goals (go_wp2_with fail)
  all_goals
    refine (HX3.out _).mono ?_
    rintro e w7 ⟨rfl, hb7⟩
    have HB7 := Lib.hid (HBY.out.trans (hb7.mono HBY.out.size))
    clear hb7
  all_goals (go_wp2_with fail)
  all_goals go_ret
  all_goals refine ⟨?_, HB7.out⟩
  all_goals rw [HAM.out]
  all_goals refine Eq.trans (show _ = Ending.returned (Value.bool _) from rfl) (congrArg (fun b => Ending.returned (Value.bool b)) ?_)
  all_goals first
    | (refine decide_eq_decide.2 ?_; (repeat' split) <;> omega)
    | (refine (decide_eq_true ?_).symm; (repeat' split) <;> omega)
    | (refine (decide_eq_false ?_).symm; (repeat' split) <;> omega)
end Go.Proofs.Ytpdgcajbdaleeaa
