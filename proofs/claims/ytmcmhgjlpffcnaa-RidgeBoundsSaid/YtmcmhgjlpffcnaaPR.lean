/- How many rods are needed at least, by weights (bound). No condition but the limits of rods and weights that may be. -/
import Derived.Test.YtmcmhgjlpffcnaaPQ
set_option linter.unusedSimpArgs false
namespace Go.Proofs.Ytmcmhgjlpffcnaa
open Go.RowKit Go.Shelf
attribute [local go_sem] Oper.semAt_some

/-- A piece that does not panic. -/
theorem wpIn_calm {n : Nat} {P : Program} {c : Code} {K : Act → World → Prop} {Q : Exit → Act → World → Prop} {a : Act} {w : World} (h : c.wpIn Fence.wide n P (Exit.then K (fun _ _ _ => False)) a w) : c.wpIn Fence.wide n P (Exit.then K Q) a w :=
  wpIn_mono h (by rintro e a w hq; cases e <;> first | exact hq | exact hq.elim)
/-- What holds between two rounds of bound. -/
def BoundI (w w7 : World) (HB : Nat) (ws : List Int) (pre : List (List Int)) (W : World) : Prop :=
  Blk W HB #[.int .i64 (heldM ws pre)] 3 ∧ Keeps (fun k => k < w7.heap.size ∧ k ≠ HB) w7 W ∧ Below w.heap.size w W

set_option maxRecDepth 100000 in
set_option maxHeartbeats 16000000 in
theorem bound_any (r : Rds) (ws : List Int) (sa : Option Addr) (c : Nat) (w : World) (hr : r.ok) (hrow : IsCts w r.ca r.cc r.cs) (hws : IsInts w sa c ws) (hl : ws.length ≤ 8) (hh : heftB ws) :
    Calls Try.prog 66 #[.agg #[.int .i64 r.stock, .int .i64 r.kerf, .slice r.ca r.cs.length r.cc], .slice sa ws.length c] w fun e w' => e = .returned (.int .i64 (boundV r ws)) ∧ Below w.heap.size w w' := by
  refine calls_of_wpF (n := 5) Try.func66 rfl ?_
  have HR := Lib.hid hr
  have HROW := Lib.hid hrow
  have HWS := Lib.hid hws
  have HL := Lib.hid hl
  have HH := Lib.hid hh
  have HPW := Lib.hid (patB_want hr)
  clear hr hrow hws hl hh
  simp only [Try.ntmps66, List.size_toArray, List.length_cons, List.length_nil, Nat.reduceAdd, Nat.reduceSub, Array.replicate_succ, Array.replicate_zero, List.push_toArray, List.append_toArray, List.nil_append, List.cons_append]
  refine wpF_seq ?_
  gi_wp2_with fail
  have k1 := (Blk.new w 43 #[.int .i64 r.stock, .int .i64 r.kerf, .slice r.ca r.cs.length r.cc]).alloc (.cells #[.slice sa ws.length c] 25)
  have k2 := Blk.new (w.alloc (.cells #[.int .i64 r.stock, .int .i64 r.kerf, .slice r.ca r.cs.length r.cc] 43)) 25 #[.slice sa ws.length c]
  have hb1 : Below w.heap.size w ((w.alloc (.cells #[.int .i64 r.stock, .int .i64 r.kerf, .slice r.ca r.cs.length r.cc] 43)).alloc (.cells #[.slice sa ws.length c] 25)) := ((Below.refl _ w).alloc (Nat.le_refl _) _).alloc (by simp) _
  rw [World.size_alloc] at k2
  generalize ((w.alloc (.cells #[.int .i64 r.stock, .int .i64 r.kerf, .slice r.ca r.cs.length r.cc] 43)).alloc (.cells #[.slice sa ws.length c] 25)) = w1 at *
  have K1 := Lib.hid k1
  have K2 := Lib.hid k2
  have HB1 := Lib.hid hb1
  have hmk : ∀ w', Below w1.heap.size w1 w' → (Below w1.heap.size w1 w' ∧ (w'.cell? ⟨w.heap.size, 0, none⟩ = some (.int .i64 r.stock) ∧ w'.cell? ⟨w.heap.size, 1, none⟩ = some (.int .i64 r.kerf) ∧ w'.cell? ⟨w.heap.size, 2, none⟩ = some (.slice r.ca r.cs.length r.cc)) ∧ w'.cell? ⟨w.heap.size + 1, 0, none⟩ = some (.slice sa ws.length c)) := fun w' h => ⟨h, rds_cells (r := r) (k1.belowS h), (k2.belowS h).cell 0⟩
  have HMK := Lib.hid hmk
  clear hmk
  clear k1 k2 hb1
  refine wpF_seq ?_
  refine wpIn_calm ?_
  refine wpIn_wide.2 ?_
  refine wp_region_E 4 (fun w' => Below w1.heap.size w1 w' ∧ (w'.cell? ⟨w.heap.size, 0, none⟩ = some (.int .i64 r.stock) ∧ w'.cell? ⟨w.heap.size, 1, none⟩ = some (.int .i64 r.kerf) ∧ w'.cell? ⟨w.heap.size, 2, none⟩ = some (.slice r.ca r.cs.length r.cc)) ∧ w'.cell? ⟨w.heap.size + 1, 0, none⟩ = some (.slice sa ws.length c)) (by kernel_rfl) ?_
  have hx0 := HMK.out w1.drew (Below.refl _ _).drew
  refine E_take (i := 0) (oi := _) (v := ?v1) rfl (by kernel_rfl) (by kernel_rfl) (by kernel_rfl) (by kernel_rfl) (fun _ _ _ h => h) hx0 (Or.inl ⟨by rfl, ?y1⟩) ?r1
  case y1 => (intro w' hSw; (try dsimp only at hSw); go_simp; try with_reducible rfl)
  try simp only [Act.put, List.getElem_toArray, List.getElem_cons_zero, List.getElem_cons_succ, List.setIfInBounds_toArray, List.set_cons_zero, List.set_cons_succ]
  refine E_take (i := 2) (oi := _) (v := ?v2) rfl (by kernel_rfl) (by kernel_rfl) (by kernel_rfl) (by kernel_rfl) (fun _ _ _ h => h) hx0 (Or.inl ⟨by rfl, ?y2⟩) ?r2
  case y2 => (intro w' hSw; (try dsimp only at hSw); go_simp; try with_reducible rfl)
  try simp only [Act.put, List.getElem_toArray, List.getElem_cons_zero, List.getElem_cons_succ, List.setIfInBounds_toArray, List.set_cons_zero, List.set_cons_succ]
  refine E_step (i := 1) (o := _) (by kernel_rfl) rfl (fun K hK => ?_)
  go_simp
  refine (wanted_any r _ HR.out (HROW.out.belowS (HB1.out.trans ((Below.refl _ w1).drew.mono HB1.out.size)))).mono ?_
  rintro e w2 ⟨rfl, hb2⟩
  dsimp only
  refine hK.out _ _ (fun h => HMK.out _ ((Below.refl _ w1).drew.trans hb2)) ?_
  clear hK K
  try simp only [Act.put, List.getElem_toArray, List.getElem_cons_zero, List.getElem_cons_succ, List.setIfInBounds_toArray, List.set_cons_zero, List.set_cons_succ]
  have hB2 := (Below.refl w1.heap.size w1).drew.trans hb2
  refine E_step (i := 3) (o := _) (by kernel_rfl) rfl (fun K hK => ?_)
  go_simp
  refine (weigh_any (wantL r.cs) ws sa c _ (HWS.out.belowS (HB1.out.trans (hB2.mono HB1.out.size))) HL.out HPW.out HH.out).mono ?_
  rintro e w3 ⟨rfl, hb3⟩
  dsimp only
  refine hK.out _ _ (fun h => HMK.out _ (hB2.trans (hb3.mono hB2.size))) ?_
  clear hK K
  try simp only [Act.put, List.getElem_toArray, List.getElem_cons_zero, List.getElem_cons_succ, List.setIfInBounds_toArray, List.set_cons_zero, List.set_cons_succ]
  have hB3 := hB2.trans (hb3.mono hB2.size)
  have hx3 := HMK.out w3 hB3
  refine E_step (i := 4) (o := _) (by kernel_rfl) rfl (fun K hK => ?_)
  go_simp
  refine hK.out _ _ (fun h => hx3) ?_
  clear hK K
  try simp only [Act.put, List.getElem_toArray, List.getElem_cons_zero, List.getElem_cons_succ, List.setIfInBounds_toArray, List.set_cons_zero, List.set_cons_succ]
  refine E_done (by kernel_rfl) ?_ _
  have HB3 := Lib.hid (HB1.out.trans (hB3.mono HB1.out.size))
  have K1 := Lib.hid (K1.out.belowS hB3)
  have K2 := Lib.hid (K2.out.belowS hB3)
  clear hx0 hx3 hB2 hB3 hb2 hb3 HMK HB1
  dsimp only [Exit.then]
  obtain ⟨sm, hsm⟩ : ∃ sm, weighM ws (wantL r.cs) = sm := ⟨_, rfl⟩
  have hz1 := (weighTo_bd HPW.out HH.out ws.length)
  rw [show weighTo ws (wantL r.cs) ws.length = weighM ws (wantL r.cs) from rfl, hsm] at hz1
  obtain ⟨hz1, hz2⟩ := hz1
  have hl8 := HL.out
  rw [hsm]
  have HSM := Lib.hid hsm
  clear hsm
  by_cases hz : sm = 0
  · subst hz
    have hfin : boundV r ws = 0 := by unfold boundV; rw [HSM.out, if_pos rfl]
    refine wpF_seq ?_
    gi_wp2_with fail
    refine leaves_marks (n := w.heap.size) (by simp) [] w3 (Marks.nil _ _) HB3.out.size (fun W' hb' hk' => ?_)
    exact ⟨.int .i64 0, by simp [results, Try.results66, go_sem], by rw [hfin], HB3.out.trans hb'⟩
  · refine wpF_seq ?_
    gi_wp2_with fail
    refine wpF_seq ?_
    gi_wp2_with fail
    have hlt1 := K1.out.lt
    have hlt2 := K2.out.lt
    have kh := Blk.new w3 3 #[.int .i64 0]
    have hb4 := HB3.out.alloc (o := .cells #[.int .i64 0] 3) HB3.out.size
    have KH := Lib.hid kh
    have k1 := K1.out.alloc (.cells #[.int .i64 0] 3)
    have k2 := K2.out.alloc (.cells #[.int .i64 0] 3)
    generalize w3.alloc (.cells #[.int .i64 0] 3) = w4 at *
    have K1 := Lib.hid k1
    have K2 := Lib.hid k2
    have HB4 := Lib.hid hb4
    clear kh hb4
    have hmk : ∀ w', Below w4.heap.size w4 w' → (Below w4.heap.size w4 w' ∧ (w'.cell? ⟨w.heap.size, 0, none⟩ = some (.int .i64 r.stock) ∧ w'.cell? ⟨w.heap.size, 1, none⟩ = some (.int .i64 r.kerf) ∧ w'.cell? ⟨w.heap.size, 2, none⟩ = some (.slice r.ca r.cs.length r.cc)) ∧ w'.cell? ⟨w.heap.size + 1, 0, none⟩ = some (.slice sa ws.length c)) := fun w' h => ⟨h, rds_cells (r := r) (k1.belowS h), (k2.belowS h).cell 0⟩
    have HMK := Lib.hid hmk
    clear hmk
    clear k1 k2
    refine wpF_seqF ?_
    refine wpF_seq ?_
    refine wpIn_calm ?_
    refine wpIn_wide.2 ?_
    refine wp_region_E 4 (fun w' => Below w4.heap.size w4 w' ∧ (w'.cell? ⟨w.heap.size, 0, none⟩ = some (.int .i64 r.stock) ∧ w'.cell? ⟨w.heap.size, 1, none⟩ = some (.int .i64 r.kerf) ∧ w'.cell? ⟨w.heap.size, 2, none⟩ = some (.slice r.ca r.cs.length r.cc)) ∧ w'.cell? ⟨w.heap.size + 1, 0, none⟩ = some (.slice sa ws.length c)) (by kernel_rfl) ?_
    have hx0 := HMK.out w4.drew (Below.refl _ _).drew
    refine E_takeR (i := 0) (oi := _) (v := ?v3) rfl (by kernel_rfl) (by kernel_rfl) (by kernel_rfl) (by decide) (fun _ _ _ h => h) hx0 (Or.inl ⟨by rfl, ?y3⟩) ?r3
    case y3 => (intro w' hSw; (try dsimp only at hSw); go_simp; try with_reducible rfl)
    try simp only [Act.put, List.getElem_toArray, List.getElem_cons_zero, List.getElem_cons_succ, List.setIfInBounds_toArray, List.set_cons_zero, List.set_cons_succ]
    refine E_takeR (i := 1) (oi := _) (v := ?v4) rfl (by kernel_rfl) (by kernel_rfl) (by kernel_rfl) (by decide) (fun _ _ _ h => h) hx0 (Or.inl ⟨by rfl, ?y4⟩) ?r4
    case y4 => (intro w' hSw; (try dsimp only at hSw); go_simp; try with_reducible rfl)
    try simp only [Act.put, List.getElem_toArray, List.getElem_cons_zero, List.getElem_cons_succ, List.setIfInBounds_toArray, List.set_cons_zero, List.set_cons_succ]
    refine E_step (i := 2) (o := _) (by kernel_rfl) rfl (fun K hK => ?_)
    go_simp
    refine (wanted_any r _ HR.out (HROW.out.belowS (HB4.out.trans ((Below.refl _ w4).drew.mono HB4.out.size)))).mono ?_
    rintro e w5 ⟨rfl, hb5⟩
    dsimp only
    refine hK.out _ _ (fun h => HMK.out _ ((Below.refl _ w4).drew.trans hb5)) ?_
    clear hK K
    try simp only [Act.put, List.getElem_toArray, List.getElem_cons_zero, List.getElem_cons_succ, List.setIfInBounds_toArray, List.set_cons_zero, List.set_cons_succ]
    have hB5 := (Below.refl w4.heap.size w4).drew.trans hb5
    have hx5 := HMK.out w5 hB5
    refine E_step (i := 3) (o := _) (by kernel_rfl) rfl (fun K hK => ?_)
    go_simp
    refine (patterns_any r (wantL r.cs) w5).mono ?_
    rintro e w7 ⟨rfl, hw7⟩
    dsimp only
    refine hK.out _ _ (fun h => HMK.out _ (by rw [hw7]; exact (hB5.alloc hB5.size _).alloc (by have := hB5.size; simp; omega) _)) ?_
    clear hK K
    try simp only [Act.put, List.getElem_toArray, List.getElem_cons_zero, List.getElem_cons_succ, List.setIfInBounds_toArray, List.set_cons_zero, List.set_cons_succ]
    refine E_done (by kernel_rfl) ?_ _
    have kr : Blk w7 w5.heap.size #[.int .i64 r.stock, .int .i64 r.kerf, .slice r.ca r.cs.length r.cc] 43 := by rw [hw7]; exact (Blk.new w5 _ _).alloc _
    have km : Blk w7 (w5.heap.size + 1) (patC (wantL r.cs)) 105 := by rw [hw7]; have := Blk.new (w5.alloc (.cells #[.int .i64 r.stock, .int .i64 r.kerf, .slice r.ca r.cs.length r.cc] 43)) 105 (patC (wantL r.cs)); rwa [World.size_alloc] at this
    have hb7 : Below w4.heap.size w4 w7 := by rw [hw7]; exact (hB5.alloc hB5.size _).alloc (by have := hB5.size; simp; omega) _
    have hsz7 : w7.heap.size = w5.heap.size + 2 := by rw [hw7]; simp
    have h45 := hB5.size
    have kh7 := KH.out.belowS hb7
    have hlh := KH.out.lt
    have HB7 := Lib.hid (HB4.out.trans (hb7.mono HB4.out.size))
    have K2 := Lib.hid (K2.out.belowS hb7)
    have HROW7 := HROW.out.belowS HB7.out
    have hcin : CutsIn (fun k => k < w7.heap.size ∧ k ≠ w3.heap.size) w7 r.ca r.cc r.cs := by
      rcases HROW.out with h | ⟨b, off, e, hbl, hc, hc', hp⟩
      · exact .inl h
      · have h3 := HB3.out.size
        refine .inr ⟨b, off, e, ⟨by have := HB7.out.size; omega, by omega⟩, by have := HB7.out.size; omega, hc, hc', fun j x hj => ?_⟩
        obtain ⟨q0, q1⟩ := hp j x hj
        exact ⟨(HB7.out.cell (p := ⟨b, _, none⟩) hbl).trans q0, (HB7.out.cell (p := ⟨b, _, none⟩) hbl).trans q1⟩
    have HWS7 := Lib.hid (HWS.out.belowS HB7.out)
    clear hx0 hx5 hB5 hb5 hw7 HMK hb7 HROW7
    dsimp only [Exit.then]
    refine wpF_block ?_
    have hh0 := hlt2
    refine pat_law (n := 5) (RP := w5.heap.size) (MP := w5.heap.size + 1) rfl (fun k => k < w7.heap.size ∧ k ≠ w3.heap.size) r HR.out (wantL r.cs) HPW.out (fun k hk => hk.1) ⟨kr.lt, by omega⟩ ⟨km.lt, by omega⟩ kr km hcin rfl
      (BoundI w w7 w3.heap.size ws) (fun _ _ _ => False) (fun _ _ => False)
      (fun s X Y h hb => ⟨h.1.below hb (by omega), ⟨Nat.le_trans h.2.1.size hb.size, fun k hk => (hb.block k hk.1).trans (h.2.1.block k hk)⟩, h.2.2.trans (hb.mono HB7.out.size)⟩) (fun _ _ _ _ h _ => h.elim) ⟨kh7, Keeps.refl _ _, HB7.out⟩
      (fun x Bx => { tmps := #[.agg #[.int .i64 r.stock, .int .i64 r.kerf, .slice r.ca r.cs.length r.cc], .slice sa ws.length c, .pointer (some ⟨w.heap.size, 0, none⟩), .pointer (some ⟨w.heap.size + 1, 0, none⟩), .int .i64 0, .int .i64 sm, .pointer (some ⟨w3.heap.size, 0, none⟩), .pointer (some ⟨Bx, 0, none⟩), .agg #[.int .i64 r.stock, .int .i64 r.kerf, .slice r.ca r.cs.length r.cc], .agg (patC (wantL r.cs)), .slice sa ws.length c, .int .i64 sm, .int .i64 sm, .bool false, .agg #[.int .i64 r.stock, .int .i64 r.kerf, .slice r.ca r.cs.length r.cc], .agg #[.int .i64 r.stock, .int .i64 r.kerf, .slice r.ca r.cs.length r.cc], .agg (patC (wantL r.cs)), .func (.func 105) #[] #[.pointer (some ⟨w5.heap.size, 0, none⟩), .pointer (some ⟨w5.heap.size + 1, 0, none⟩)], .agg (patC x), undef, undef, undef, undef, undef, undef, undef, undef, undef, undef, undef], defers := [] }) ?assign ?body ?done ?stop ?panic
    case assign =>
      intro L x W K hK
      unfold encQ patC at *
      gi_wp2
      exact hK
    case stop => rintro D cc pre W hD h hDef; exact h.elim
    case panic => rintro D ch W hD h hDef; exact h.elim
    case done =>
      rintro D W hD ⟨hh, hk, hb⟩ hDef
      have hhe := held_pos HR.out HH.out HL.out (by rw [HSM.out]; exact hz)
      have hbd := (held_bd HH.out HL.out _ (lvAll r (wantL r.cs)) rfl (fun q hq => (lvAll_mem HPW.out hq).1)).2.1
      have hbv : boundV r ws = (sm + heldM ws (lvAll r (wantL r.cs)) - 1) / heldM ws (lvAll r (wantL r.cs)) := by
        unfold boundV
        rw [HSM.out, if_neg hz]
      have HBV := Lib.hid hbv
      clear hbv
      have c0 := hh.cell 0
      have lh := hh.lt
      simp only [List.getElem?_toArray, List.getElem?_cons_zero] at c0
      generalize heldM ws (lvAll r (wantL r.cs)) = hv at *
      have hst : sm ≤ 96000000 := by omega
      have e1 : IntKind.i64.wrap (sm + hv) = sm + hv := by rw [IntKind.wrap_i64]; omega
      have e2 : IntKind.i64.wrap (sm + hv - 1) = sm + hv - 1 := by rw [IntKind.wrap_i64]; omega
      have e3 : (sm + hv - 1).tdiv hv = (sm + hv - 1) / hv := Int.tdiv_eq_ediv_of_nonneg (by omega)
      have e4 : 0 ≤ (sm + hv - 1) / hv := Int.ediv_nonneg (by omega) (by omega)
      have e5 : (sm + hv - 1) / hv ≤ sm + hv - 1 := Int.ediv_le_self _ (by omega)
      refine wpF_of ?_
      gi_wp2
      refine leaves_marks (n := w.heap.size) (by simp) [D] W ⟨by simp, fun E hE => by obtain rfl := List.mem_singleton.1 hE; exact ⟨Nat.le_trans HB7.out.size hD, hDef⟩⟩ hb.size (fun W' hb' hk' => ?_)
      exact ⟨.int .i64 ((sm + hv - 1) / hv), by simp [results, Try.results66, go_sem], by rw [HBV.out], hb.trans hb'⟩
    case body =>
      rintro L pre x Bx W hL hBx hWs ⟨rr, hrr⟩ hE hpre ⟨hh, hk, hb⟩
      have hxm : x ∈ lvAll r (wantL r.cs) := by
        obtain ⟨t, ht⟩ := hpre
        rw [← ht]
        simp
      have hpm : ∀ q ∈ pre, patB q := fun q hq => by
        obtain ⟨t, ht⟩ := hpre
        exact (lvAll_mem HPW.out (by rw [← ht]; simp [hq])).1
      have hxb := (lvAll_mem HPW.out hxm).1
      have hbd := held_bd HH.out HL.out _ pre rfl hpm
      have hwb := weighTo_bd hxb HH.out ws.length
      rw [show weighTo ws x ws.length = weighM ws x from rfl] at hwb
      have hsn := held_snoc ws pre x
      obtain ⟨hv1, hv2, -⟩ := hbd
      obtain ⟨hw1, hw2⟩ := hwb
      have HXB := Lib.hid hxb
      have HSN := Lib.hid hsn
      have hrow2 := HWS.out.belowS hb
      have HRW := Lib.hid hrow2
      have hk2 : Blk W (w.heap.size + 1) #[.slice sa ws.length c] 25 := (hk.block _ ⟨by have := HB7.out.size; omega, by omega⟩).trans K2.out
      obtain ⟨p0, p1, p2, p3, p4, p5, p6, p7⟩ := pat_cells hE
      have hmk : ∀ w', Below W.heap.size W w' → (Below W.heap.size W w' ∧ w'.cell? ⟨w3.heap.size, 0, none⟩ = some (.int .i64 (heldM ws pre)) ∧ (w'.cell? ⟨Bx, 0, none⟩ = some (.int .i64 (ent x 0)) ∧ w'.cell? ⟨Bx, 1, none⟩ = some (.int .i64 (ent x 1)) ∧ w'.cell? ⟨Bx, 2, none⟩ = some (.int .i64 (ent x 2)) ∧ w'.cell? ⟨Bx, 3, none⟩ = some (.int .i64 (ent x 3)) ∧ w'.cell? ⟨Bx, 4, none⟩ = some (.int .i64 (ent x 4)) ∧ w'.cell? ⟨Bx, 5, none⟩ = some (.int .i64 (ent x 5)) ∧ w'.cell? ⟨Bx, 6, none⟩ = some (.int .i64 (ent x 6)) ∧ w'.cell? ⟨Bx, 7, none⟩ = some (.int .i64 (ent x 7))) ∧ w'.cell? ⟨w.heap.size + 1, 0, none⟩ = some (.slice sa ws.length c)) := fun w' h => ⟨h, (hh.belowS h).cell 0, pat_cells (hE.belowS h), (hk2.belowS h).cell 0⟩
      have HMK := Lib.hid hmk
      have HI := Lib.hid (And.intro hh (And.intro hk hb))
      clear hmk hxm hpm hxb hsn hrow2 hk2 p0 p1 p2 p3 p4 p5 p6 p7 hh hk hb hpre
      generalize heldM ws pre = hv at *
      gi_wp2_with fail
      refine wpIn_region_E 5 (fun w' => Below W.heap.size W w' ∧ w'.cell? ⟨w3.heap.size, 0, none⟩ = some (.int .i64 hv) ∧ (w'.cell? ⟨Bx, 0, none⟩ = some (.int .i64 (ent x 0)) ∧ w'.cell? ⟨Bx, 1, none⟩ = some (.int .i64 (ent x 1)) ∧ w'.cell? ⟨Bx, 2, none⟩ = some (.int .i64 (ent x 2)) ∧ w'.cell? ⟨Bx, 3, none⟩ = some (.int .i64 (ent x 3)) ∧ w'.cell? ⟨Bx, 4, none⟩ = some (.int .i64 (ent x 4)) ∧ w'.cell? ⟨Bx, 5, none⟩ = some (.int .i64 (ent x 5)) ∧ w'.cell? ⟨Bx, 6, none⟩ = some (.int .i64 (ent x 6)) ∧ w'.cell? ⟨Bx, 7, none⟩ = some (.int .i64 (ent x 7))) ∧ w'.cell? ⟨w.heap.size + 1, 0, none⟩ = some (.slice sa ws.length c)) (by kernel_rfl) (by kernel_rfl) (by rintro ⟨_, _, h⟩; exact h) ?_
      have hx0 := HMK.out W.drew (Below.refl _ _).drew
      refine E_take (i := 0) (oi := _) (v := ?v5) rfl (by kernel_rfl) (by kernel_rfl) (by kernel_rfl) (by kernel_rfl) (fun _ _ _ h => h) hx0 (Or.inl ⟨by rfl, ?y5⟩) ?r5
      case y5 => (intro w' hSw; (try dsimp only at hSw); go_simp; try with_reducible rfl)
      try simp only [Act.put, List.getElem_toArray, List.getElem_cons_zero, List.getElem_cons_succ, List.setIfInBounds_toArray, List.set_cons_zero, List.set_cons_succ]
      refine E_take (i := 1) (oi := _) (v := ?v6) rfl (by kernel_rfl) (by kernel_rfl) (by kernel_rfl) (by kernel_rfl) (fun _ _ _ h => h) hx0 (Or.inl ⟨by rfl, ?y6⟩) ?r6
      case y6 => (intro w' hSw; (try dsimp only at hSw); go_simp; try with_reducible rfl)
      try simp only [Act.put, List.getElem_toArray, List.getElem_cons_zero, List.getElem_cons_succ, List.setIfInBounds_toArray, List.set_cons_zero, List.set_cons_succ]
      refine E_take (i := 2) (oi := _) (v := ?v7) rfl (by kernel_rfl) (by kernel_rfl) (by kernel_rfl) (by kernel_rfl) (fun _ _ _ h => h) hx0 (Or.inl ⟨by rfl, ?y7⟩) ?r7
      case y7 => (intro w' hSw; (try dsimp only at hSw); go_simp; try with_reducible rfl)
      try simp only [Act.put, List.getElem_toArray, List.getElem_cons_zero, List.getElem_cons_succ, List.setIfInBounds_toArray, List.set_cons_zero, List.set_cons_succ]
      refine E_step (i := 3) (o := _) (by kernel_rfl) rfl (fun K hK => ?_)
      go_simp
      refine (weigh_any x ws sa c _ (HRW.out.belowS ((Below.refl _ W).drew)) HL.out HXB.out HH.out).mono ?_
      rintro e w8 ⟨rfl, hb8⟩
      dsimp only
      refine hK.out _ _ (fun h => HMK.out _ ((Below.refl _ W).drew.trans hb8)) ?_
      clear hK K
      try simp only [Act.put, List.getElem_toArray, List.getElem_cons_zero, List.getElem_cons_succ, List.setIfInBounds_toArray, List.set_cons_zero, List.set_cons_succ]
      have hB8 := (Below.refl W.heap.size W).drew.trans hb8
      have hx8 := HMK.out w8 hB8
      generalize weighM ws x = wv at *
      refine E_step (i := 4) (o := _) (by kernel_rfl) rfl (fun K hK => ?_)
      go_simp
      refine hK.out _ _ (fun h => hx8) ?_
      clear hK K
      try simp only [Act.put, List.getElem_toArray, List.getElem_cons_zero, List.getElem_cons_succ, List.setIfInBounds_toArray, List.set_cons_zero, List.set_cons_succ]
      have hh8 := HI.out.1.belowS hB8
      have hz8 := hh8.frozen 0
      have hl8' := hh8.lt
      refine E_step (i := 5) (o := _) (by kernel_rfl) rfl (fun K hK => ?_)
      go_simp
      refine hK.out _ _ (fun h => absurd rfl h) ?_
      clear hK K
      try simp only [Act.put, List.getElem_toArray, List.getElem_cons_zero, List.getElem_cons_succ, List.setIfInBounds_toArray, List.set_cons_zero, List.set_cons_succ]
      refine E_done (by kernel_rfl) ?_ _
      obtain ⟨-, hk, hb⟩ := HI.out
      have hV := HSN.out
      generalize (if hv < wv then wv else hv) = nv at *
      have hS2 : ∀ k, (k < w7.heap.size ∧ k ≠ w3.heap.size) → k < W.heap.size := fun k h => Nat.lt_of_lt_of_le h.1 hWs
      have hks : Keeps (fun k => k < w7.heap.size ∧ k ≠ w3.heap.size) W (w8.setCell ⟨w3.heap.size, 0, none⟩ (.int .i64 nv)) := (Keeps.of_below hB8 hS2).setCell (fun h => h.2 rfl) _
      have hko : KeepsOthers W (w8.setCell ⟨w3.heap.size, 0, none⟩ (.int .i64 nv)) := (others_of hB8).trans (KeepsOthers.setCell _ _ _)
      refine ⟨hko.from _, ⟨hks.size, hks.block, fun k cs t hkl hkb => (hkb.belowS hB8).other (by omega) _⟩, ?_, hk.trans hks, (hb.trans (hB8.mono hb.size)).setCell (by show w.heap.size ≤ w3.heap.size; omega) _⟩
      have hf := hh8.set 0 (.int .i64 nv)
      simp only [List.setIfInBounds_toArray, List.set_cons_zero] at hf
      rw [hV]
      exact hf
end Go.Proofs.Ytmcmhgjlpffcnaa
