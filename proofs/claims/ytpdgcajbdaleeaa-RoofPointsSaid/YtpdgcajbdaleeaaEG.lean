/- apart of the specification: whether an edge of a face parts it from another one. No condition but the limits of the plan. -/
import Derived.Test.YtpdgcajbdaleeaaED
set_option linter.unusedSimpArgs false
namespace Go.Proofs.Ytpdgcajbdaleeaa
open Go.RowKit

theorem parted_iff (a b : List Pnt) : partedL a b = true ↔ ∃ k, k < a.length ∧ ∀ j, j < b.length → (edgN a k).side (cor b j) ≤ 0 := by
  unfold partedL
  rw [Bool.not_eq_true', List.all_eq_false]
  constructor
  · rintro ⟨k, hk, h⟩
    refine ⟨k, List.mem_range.1 hk, fun j hj => ?_⟩
    rw [Bool.not_eq_true, leftAny, List.any_eq_false] at h
    have := h _ (cor_mem hj)
    simp at this
    exact this
  · rintro ⟨k, hk, h⟩
    refine ⟨k, List.mem_range.2 hk, ?_⟩
    rw [Bool.not_eq_true, leftAny, List.any_eq_false]
    intro q hq
    obtain ⟨j, hj, rfl⟩ := mem_cor hq
    have := h j hj
    simp
    exact this

set_option maxRecDepth 100000 in
set_option maxHeartbeats 16000000 in
theorem refApart_any (f g : Fac) (w : World) (hs : IsPts w (.slice f.ca f.cs.length f.cc) f.cs) (hl : f.cs.length ≤ 1000) (hok : okPts f.cs) (ht : IsPts w (.slice g.ca g.cs.length g.cc) g.cs) (hm : g.cs.length ≤ 1000) (hog : okPts g.cs) :
    Calls Try.prog 61 #[.agg #[.string f.name, .int .i64 f.side, .int .i64 f.foot, .int .i64 f.base, .int .i64 f.rise, .int .i64 f.run, .slice f.ca f.cs.length f.cc], .agg #[.string g.name, .int .i64 g.side, .int .i64 g.foot, .int .i64 g.base, .int .i64 g.rise, .int .i64 g.run, .slice g.ca g.cs.length g.cc]] w fun e w' => e = .returned (.bool (partedL f.cs g.cs)) ∧ Below w.heap.size w w' := by
  have k1 := (Blk.new w 72 #[.string f.name, .int .i64 f.side, .int .i64 f.foot, .int .i64 f.base, .int .i64 f.rise, .int .i64 f.run, .slice f.ca f.cs.length f.cc]).alloc (.cells #[.string g.name, .int .i64 g.side, .int .i64 g.foot, .int .i64 g.base, .int .i64 g.rise, .int .i64 g.run, .slice g.ca g.cs.length g.cc] 72)
  have k2 := Blk.new (w.alloc (.cells #[.string f.name, .int .i64 f.side, .int .i64 f.foot, .int .i64 f.base, .int .i64 f.rise, .int .i64 f.run, .slice f.ca f.cs.length f.cc] 72)) 72 #[.string g.name, .int .i64 g.side, .int .i64 g.foot, .int .i64 g.base, .int .i64 g.rise, .int .i64 g.run, .slice g.ca g.cs.length g.cc]
  have hb1 : Below w.heap.size w ((w.alloc (.cells #[.string f.name, .int .i64 f.side, .int .i64 f.foot, .int .i64 f.base, .int .i64 f.rise, .int .i64 f.run, .slice f.ca f.cs.length f.cc] 72)).alloc (.cells #[.string g.name, .int .i64 g.side, .int .i64 g.foot, .int .i64 g.base, .int .i64 g.rise, .int .i64 g.run, .slice g.ca g.cs.length g.cc] 72)) := ((Below.refl _ w).alloc (Nat.le_refl _) _).alloc (by simp) _
  rw [World.size_alloc] at k2
  have HS := Lib.hid hs
  have HT := Lib.hid ht
  have HOK := Lib.hid hok
  have HOG := Lib.hid hog
  have HLL := Lib.hid (And.intro hl hm)
  clear hs hok ht hog
  go_enter Try.func61, Try.ntmps61
  go_upto_region 1 with fail
  generalize ((w.alloc (.cells #[.string f.name, .int .i64 f.side, .int .i64 f.foot, .int .i64 f.base, .int .i64 f.rise, .int .i64 f.run, .slice f.ca f.cs.length f.cc] 72)).alloc (.cells #[.string g.name, .int .i64 g.side, .int .i64 g.foot, .int .i64 g.base, .int .i64 g.rise, .int .i64 g.run, .slice g.ca g.cs.length g.cc] 72)) = w1 at *
  have K1 := Lib.hid k1
  have K2 := Lib.hid k2
  have HB1 := Lib.hid hb1
  clear k1 k2 hb1
  go_wp2_with fail
  go_loopw [5, 6, 7, 8, 9] (fun s5 _ _ _ _ wv => ∃ k : Nat, k ≤ f.cs.length ∧ s5 = .int .i64 k ∧ (∀ j, j < k → ∃ i, i < g.cs.length ∧ 0 < (edgN f.cs j).side (cor g.cs i)) ∧ Below w1.heap.size w1 wv) (fun s5 _ _ _ _ _ => f.cs.length - (intOf s5).toNat)
  case atStart => exact ⟨0, Nat.zero_le _, rfl, fun j h => by omega, Below.refl _ _⟩
  case round =>
    obtain ⟨k, hk, rfl, hno, hb⟩ := hrel
    have HB := Lib.hid hb
    have HNO := Lib.hid hno
    have HBW := Lib.hid (HB1.out.trans (hb.mono HB1.out.size))
    have KF := Lib.hid (K1.out.belowS hb)
    obtain ⟨wo, rfl⟩ : ∃ wo : World, wo = wr := ⟨_, rfl⟩
    have hk0 : (0 : Int) ≤ (k : Int) := Int.natCast_nonneg _
    obtain ⟨c0, c1, c2, c3, c4, c5, c6⟩ := fac_cells KF.out
    have hlf := KF.out.lt
    clear hno hb
    by_cases hkl : k < f.cs.length
    rotate_left
    · obtain rfl : k = f.cs.length := by omega
      have hjj : ¬ (f.cs.length : Int) < (f.cs.length : Int) := by omega
      have HV := Lib.hid (show partedL f.cs g.cs = false from Bool.eq_false_iff.2 fun h => by
        obtain ⟨k, h1, h2⟩ := (parted_iff _ _).1 h
        obtain ⟨i, h3, h4⟩ := HNO.out k h1
        have := h2 i h3
        omega)
      clear hkl hk
      go_wp2_with fail
      go_ret
      exact ⟨by rw [HV.out]; try rfl, HBW.out⟩
    have hk1 : (k : Int) < (f.cs.length : Int) := by omega
    have hml : (k + 1) % f.cs.length < f.cs.length := Nat.mod_lt _ (by omega)
    have HEN := Lib.hid (refEnds_any f k wo (HS.out.below HBW.out) hl hkl)
    have HOP := Lib.hid (cor_ok HOK.out hkl)
    have HOQ := Lib.hid (cor_ok HOK.out hml)
    have HKL := Lib.hid hkl
    have HED := Lib.hid (show edgN f.cs k = ⟨cor f.cs k, cor f.cs ((k + 1) % f.cs.length)⟩ from rfl)
    generalize cor f.cs k = p at *
    generalize cor f.cs ((k + 1) % f.cs.length) = q at *
    have hks : IntKind.i64.wrap ((k : Int) + 1) = ((k + 1 : Nat) : Int) := by rw [IntKind.wrap_i64]; omega
    clear hkl hml
    go_wp2_with fail
    refine HEN.out.mono ?_
    rintro e w3 ⟨rfl, hb3⟩
    have HB3 := Lib.hid (HB.out.trans (hb3.mono HB.out.size))
    clear hb3 c0 c1 c2 c3 c4 c5 c6 hlf HEN
    go_upto_region 5 with fail
    have kP := (Blk.new w3 27 #[.int .i64 p.x, .int .i64 p.y]).alloc (.cells #[.int .i64 q.x, .int .i64 q.y] 27)
    have kQ := Blk.new (w3.alloc (.cells #[.int .i64 p.x, .int .i64 p.y] 27)) 27 #[.int .i64 q.x, .int .i64 q.y]
    have hb6 : Below w3.heap.size w3 ((w3.alloc (.cells #[.int .i64 p.x, .int .i64 p.y] 27)).alloc (.cells #[.int .i64 q.x, .int .i64 q.y] 27)) := ((Below.refl _ _).alloc (Nat.le_refl _) _).alloc (by simp) _
    rw [World.size_alloc] at kQ
    have HB6 := Lib.hid (HB3.out.trans (hb6.mono HB3.out.size))
    generalize (w3.alloc (.cells #[.int .i64 p.x, .int .i64 p.y] 27)).alloc (.cells #[.int .i64 q.x, .int .i64 q.y] 27) = w6 at *
    obtain ⟨BP, hBP⟩ : ∃ BP, w3.heap.size = BP := ⟨_, rfl⟩
    rw [hBP] at kP kQ ⊢
    obtain ⟨BQ, hBQ⟩ : ∃ BQ, BP + 1 = BQ := ⟨_, rfl⟩
    rw [hBQ] at kQ ⊢
    have HKP := Lib.hid kP
    have HKQ := Lib.hid kQ
    have HKG := Lib.hid (K2.out.belowS HB6.out)
    have HBW6 := Lib.hid (HB1.out.trans (HB6.out.mono HB1.out.size))
    clear hb6 kP kQ hBP hBQ
    go_wp2_with fail
    go_loopw [8, 9] (fun s8 s9 wv => ∃ (i : Nat) (b : Bool), i ≤ g.cs.length ∧ s9 = .int .i64 i ∧ s8 = .bool b ∧ (b = true → ∀ j, j < i → (Edg.mk p q).side (cor g.cs j) ≤ 0) ∧ (b = false → ∃ j, j < i ∧ 0 < (Edg.mk p q).side (cor g.cs j)) ∧ Below w6.heap.size w6 wv) (fun _ s9 _ => g.cs.length - (intOf s9).toNat)
    case atStart => exact ⟨0, true, Nat.zero_le _, rfl, rfl, (fun _ j h => by omega), (fun h => by cases h), Below.refl _ _⟩
    case round =>
      obtain ⟨i, b, hi, rfl, rfl, hyes, hno, hbi⟩ := hrel
      have HYES := Lib.hid hyes
      have HNOT := Lib.hid hno
      have HBI := Lib.hid hbi
      obtain ⟨wi, rfl⟩ : ∃ wi : World, wi = wr := ⟨_, rfl⟩
      have hi0 : (0 : Int) ≤ (i : Int) := Int.natCast_nonneg _
      have HBWI := Lib.hid (HBW6.out.trans (hbi.mono HBW6.out.size))
      have kp := HKP.out.belowS hbi
      have kq := HKQ.out.belowS hbi
      have kg := HKG.out.belowS hbi
      obtain ⟨c0, c1, c2, c3, c4, c5, c6⟩ := fac_cells kg
      have hlg := kg.lt
      clear hyes hno
      by_cases hil : i < g.cs.length
      · have hi1 : (i : Int) < (g.cs.length : Int) := by omega
        have HIL := Lib.hid hil
        have ei : IntKind.i64.wrap ((i : Int) + 1) = ((i + 1 : Nat) : Int) := by have := HLL.out.2; rw [IntKind.wrap_i64]; omega
        cases b with
        | false =>
          have HNX := Lib.hid (show ∃ j, j < i + 1 ∧ 0 < (Edg.mk p q).side (cor g.cs j) by
            obtain ⟨j, h1, h2⟩ := HNOT.out rfl
            exact ⟨j, by omega, h2⟩)
          clear kp kq kg hil hi hbi
          go_upto_region 9 with fail
          go_quiet (fail)
          have hbq := below_drewN wi.heap.size wi nq
          have HBQ := Lib.hid (HBI.out.trans (hbq.mono HBI.out.size))
          clear c0 c1 c2 c3 c4 c5 c6 hlg hbq
          generalize wi.drewN nq = wq at *
          go_wp2_with fail
          exact ⟨⟨i + 1, false, by have := HIL.out; omega, by simp, rfl, (fun h => by cases h), fun _ => HNX.out, HBQ.out⟩, by have := HIL.out; simp [intOf]; omega⟩
        | true =>
          obtain ⟨cb, co, hca, hcbl, hcc1, hcc2, hcp⟩ := cor_at (HT.out.below HBWI.out) hil
          obtain ⟨x0, x1⟩ := hcp i hil
          have HOX := Lib.hid (cor_ok HOG.out hil)
          have hic : (i : Int) < (g.cc : Int) := by omega
          obtain ⟨x, hx⟩ : ∃ x, cor g.cs i = x := ⟨_, rfl⟩
          have HXX := Lib.hid hx
          rw [hx] at x0 x1 HOX
          obtain ⟨C, hC⟩ : ∃ C, crossP (subP q p) (subP x p) = C := ⟨_, rfl⟩
          have HSD := Lib.hid (show (Edg.mk p q).side x = C from hC)
          have hcr := fun W => refCross_any _ _ W (subP_sm HOQ.out HOP.out) (subP_sm HOX.out HOP.out)
          simp only [hC] at hcr
          have HCR := Lib.hid hcr
          have f6 : wi.cell? ⟨w.heap.size + 1, 6, none⟩ = some (.slice (some ⟨cb, co, none⟩) g.cs.length g.cc) := by rw [← hca]; exact kg.cell 6
          have hx0 : ∀ W, Below wi.heap.size wi W → (fun w' : World => w'.cell? ⟨BQ, 0, none⟩ = some (.int .i64 q.x) ∧ w'.cell? ⟨BQ, 1, none⟩ = some (.int .i64 q.y) ∧ w'.cell? ⟨BP, 0, none⟩ = some (.int .i64 p.x) ∧ w'.cell? ⟨BP, 1, none⟩ = some (.int .i64 p.y) ∧ w'.cell? ⟨w.heap.size + 1, 6, none⟩ = some (.slice (some ⟨cb, co, none⟩) g.cs.length g.cc) ∧ w'.cell? ⟨cb, co + i * 2, none⟩ = some (.int .i64 x.x) ∧ w'.cell? ⟨cb, co + i * 2 + 1, none⟩ = some (.int .i64 x.y)) W := fun W h => ⟨(h.cell (p := ⟨BQ, 0, none⟩) kq.lt).trans (kq.cell 0), (h.cell (p := ⟨BQ, 1, none⟩) kq.lt).trans (kq.cell 1), (h.cell (p := ⟨BP, 0, none⟩) kp.lt).trans (kp.cell 0), (h.cell (p := ⟨BP, 1, none⟩) kp.lt).trans (kp.cell 1), (h.cell (p := ⟨w.heap.size + 1, 6, none⟩) kg.lt).trans f6, (h.cell (p := ⟨cb, co + i * 2, none⟩) hcbl).trans x0, (h.cell (p := ⟨cb, co + i * 2 + 1, none⟩) hcbl).trans x1⟩
          have HX := Lib.hid hx0
          have HCA := Lib.hid hca
          rw [hca] at c6
          clear hx0 kp kq kg hca hcbl hcc1 hcc2 hcp x0 x1 hx hC hcr f6 hil hbi
          go_upto_region 9 with fail
          refine wp_region_E 16 (fun w' => w'.cell? ⟨BQ, 0, none⟩ = some (.int .i64 q.x) ∧ w'.cell? ⟨BQ, 1, none⟩ = some (.int .i64 q.y) ∧ w'.cell? ⟨BP, 0, none⟩ = some (.int .i64 p.x) ∧ w'.cell? ⟨BP, 1, none⟩ = some (.int .i64 p.y) ∧ w'.cell? ⟨w.heap.size + 1, 6, none⟩ = some (.slice (some ⟨cb, co, none⟩) g.cs.length g.cc) ∧ w'.cell? ⟨cb, co + i * 2, none⟩ = some (.int .i64 x.x) ∧ w'.cell? ⟨cb, co + i * 2 + 1, none⟩ = some (.int .i64 x.y)) (by kernel_rfl) ?_
          have Bq0 := Lib.hid ((Below.refl wi.heap.size wi).drew)
          have hq0 := HX.out wi.drew Bq0.out
          refine E_takeR (i := 0) (oi := _) (v := ?v1) rfl (by kernel_rfl) (by kernel_rfl) (by kernel_rfl) (by decide) (fun _ _ _ h => h) hq0 (Or.inl ⟨by rfl, ?y1⟩) ?r1
          case y1 => (intro w' hSw; (try dsimp only at hSw); go_simp; try with_reducible rfl)
          try simp only [Act.put, List.getElem_toArray, List.getElem_cons_zero, List.getElem_cons_succ, List.setIfInBounds_toArray, List.set_cons_zero, List.set_cons_succ]
          refine E_takeR (i := 1) (oi := _) (v := ?v2) rfl (by kernel_rfl) (by kernel_rfl) (by kernel_rfl) (by decide) (fun _ _ _ h => h) hq0 (Or.inl ⟨by rfl, ?y2⟩) ?r2
          case y2 => (intro w' hSw; (try dsimp only at hSw); go_simp; try with_reducible rfl)
          try simp only [Act.put, List.getElem_toArray, List.getElem_cons_zero, List.getElem_cons_succ, List.setIfInBounds_toArray, List.set_cons_zero, List.set_cons_succ]
          refine E_takeR (i := 2) (oi := _) (v := ?v3) rfl (by kernel_rfl) (by kernel_rfl) (by kernel_rfl) (by decide) (fun _ _ _ h => h) hq0 (Or.inl ⟨by rfl, ?y3⟩) ?r3
          case y3 => (intro w' hSw; (try dsimp only at hSw); go_simp; try with_reducible rfl)
          try simp only [Act.put, List.getElem_toArray, List.getElem_cons_zero, List.getElem_cons_succ, List.setIfInBounds_toArray, List.set_cons_zero, List.set_cons_succ]
          refine E_takeR (i := 3) (oi := _) (v := ?v4) rfl (by kernel_rfl) (by kernel_rfl) (by kernel_rfl) (by decide) (fun _ _ _ h => h) hq0 (Or.inl ⟨by rfl, ?y4⟩) ?r4
          case y4 => (intro w' hSw; (try dsimp only at hSw); go_simp; try with_reducible rfl)
          try simp only [Act.put, List.getElem_toArray, List.getElem_cons_zero, List.getElem_cons_succ, List.setIfInBounds_toArray, List.set_cons_zero, List.set_cons_succ]
          refine E_takeR (i := 5) (oi := _) (v := ?v5) rfl (by kernel_rfl) (by kernel_rfl) (by kernel_rfl) (by decide) (fun _ _ _ h => h) hq0 (Or.inl ⟨by rfl, ?y5⟩) ?r5
          case y5 => (intro w' hSw; (try dsimp only at hSw); go_simp; try with_reducible rfl)
          try simp only [Act.put, List.getElem_toArray, List.getElem_cons_zero, List.getElem_cons_succ, List.setIfInBounds_toArray, List.set_cons_zero, List.set_cons_succ]
          refine E_takeR (i := 6) (oi := _) (v := ?v6) rfl (by kernel_rfl) (by kernel_rfl) (by kernel_rfl) (by decide) (fun _ _ _ h => h) hq0 (Or.inl ⟨by rfl, ?y6⟩) ?r6
          case y6 => (intro w' hSw; (try dsimp only at hSw); go_simp; try with_reducible rfl)
          try simp only [Act.put, List.getElem_toArray, List.getElem_cons_zero, List.getElem_cons_succ, List.setIfInBounds_toArray, List.set_cons_zero, List.set_cons_succ]
          refine E_takeR (i := 7) (oi := _) (v := ?v7) rfl (by kernel_rfl) (by kernel_rfl) (by kernel_rfl) (by decide) (fun _ _ _ h => h) hq0 (Or.inl ⟨by rfl, ?y7⟩) ?r7
          case y7 => (intro w' hSw; (try dsimp only at hSw); go_simp; try with_reducible rfl)
          try simp only [Act.put, List.getElem_toArray, List.getElem_cons_zero, List.getElem_cons_succ, List.setIfInBounds_toArray, List.set_cons_zero, List.set_cons_succ]
          refine E_takeR (i := 8) (oi := _) (v := ?v8) rfl (by kernel_rfl) (by kernel_rfl) (by kernel_rfl) (by decide) (fun _ _ _ h => h) hq0 (Or.inl ⟨by rfl, ?y8⟩) ?r8
          case y8 => (intro w' hSw; (try dsimp only at hSw); go_simp; try with_reducible rfl)
          try simp only [Act.put, List.getElem_toArray, List.getElem_cons_zero, List.getElem_cons_succ, List.setIfInBounds_toArray, List.set_cons_zero, List.set_cons_succ]
          refine E_takeR (i := 9) (oi := _) (v := ?v9) rfl (by kernel_rfl) (by kernel_rfl) (by kernel_rfl) (by decide) (fun _ _ _ h => h) hq0 (Or.inl ⟨by rfl, ?y9⟩) ?r9
          case y9 => (intro w' hSw; (try dsimp only at hSw); go_simp; try with_reducible rfl)
          try simp only [Act.put, List.getElem_toArray, List.getElem_cons_zero, List.getElem_cons_succ, List.setIfInBounds_toArray, List.set_cons_zero, List.set_cons_succ]
          refine E_takeR (i := 10) (oi := _) (v := ?v10) rfl (by kernel_rfl) (by kernel_rfl) (by kernel_rfl) (by decide) (fun _ _ _ h => h) hq0 (Or.inl ⟨by rfl, ?y10⟩) ?r10
          case y10 => (intro w' hSw; (try dsimp only at hSw); go_simp; try with_reducible rfl)
          try simp only [Act.put, List.getElem_toArray, List.getElem_cons_zero, List.getElem_cons_succ, List.setIfInBounds_toArray, List.set_cons_zero, List.set_cons_succ]
          refine E_step (i := 4) (o := _) (by kernel_rfl) rfl (fun K hK => ?_)
          go_simp
          refine (refMinus_any q p wi.drew HOQ.out HOP.out).mono ?_
          rintro e wq1 ⟨rfl, hbq1⟩
          dsimp only
          have Bwq1 := Lib.hid (Bq0.out.trans (hbq1.mono Bq0.out.size))
          have hwq1 := HX.out wq1 Bwq1.out
          refine hK.out _ _ (fun h => hwq1) ?_
          clear hK K hbq1
          try simp only [Act.put, List.getElem_toArray, List.getElem_cons_zero, List.getElem_cons_succ, List.setIfInBounds_toArray, List.set_cons_zero, List.set_cons_succ]
          refine E_step (i := 11) (o := _) (by kernel_rfl) rfl (fun K hK => ?_)
          go_simp
          refine (refMinus_any x p wq1 HOX.out HOP.out).mono ?_
          rintro e wq2 ⟨rfl, hbq2⟩
          dsimp only
          have Bwq2 := Lib.hid (Bwq1.out.trans (hbq2.mono Bwq1.out.size))
          have hwq2 := HX.out wq2 Bwq2.out
          refine hK.out _ _ (fun h => hwq2) ?_
          clear hK K hbq2
          try simp only [Act.put, List.getElem_toArray, List.getElem_cons_zero, List.getElem_cons_succ, List.setIfInBounds_toArray, List.set_cons_zero, List.set_cons_succ]
          refine E_step (i := 12) (o := _) (by kernel_rfl) rfl (fun K hK => ?_)
          go_simp
          refine (HCR.out wq2).mono ?_
          rintro e wq3 ⟨rfl, hbq3⟩
          dsimp only
          have Bwq3 := Lib.hid (Bwq2.out.trans (hbq3.mono Bwq2.out.size))
          have hwq3 := HX.out wq3 Bwq3.out
          refine hK.out _ _ (fun h => hwq3) ?_
          clear hK K hbq3
          try simp only [Act.put, List.getElem_toArray, List.getElem_cons_zero, List.getElem_cons_succ, List.setIfInBounds_toArray, List.set_cons_zero, List.set_cons_succ]
          refine E_step (i := 13) (o := _) (by kernel_rfl) rfl (fun K hK => ?_)
          go_simp
          refine hK.out _ _ (fun h => hwq3) ?_
          clear hK K
          try simp only [Act.put, List.getElem_toArray, List.getElem_cons_zero, List.getElem_cons_succ, List.setIfInBounds_toArray, List.set_cons_zero, List.set_cons_succ]
          refine E_step (i := 14) (o := _) (by kernel_rfl) rfl (fun K hK => ?_)
          go_simp
          refine hK.out _ _ (fun h => hwq3) ?_
          clear hK K
          try simp only [Act.put, List.getElem_toArray, List.getElem_cons_zero, List.getElem_cons_succ, List.setIfInBounds_toArray, List.set_cons_zero, List.set_cons_succ]
          refine E_step (i := 15) (o := _) (by kernel_rfl) rfl (fun K hK => ?_)
          go_simp
          refine hK.out _ _ (fun h => hwq3) ?_
          clear hK K
          try simp only [Act.put, List.getElem_toArray, List.getElem_cons_zero, List.getElem_cons_succ, List.setIfInBounds_toArray, List.set_cons_zero, List.set_cons_succ]
          refine E_done (by kernel_rfl) ?_ _
          clear hq0 hwq1 hwq2 hwq3
          have HBZ := Lib.hid (HBI.out.trans (Bwq3.out.mono HBI.out.size))
          clear c0 c1 c2 c3 c4 c5 c6 hlg
          go_wp2_with fail
          refine ⟨⟨i + 1, decide (C ≤ 0), by have := HIL.out; omega, by simp, rfl, fun h j hj => ?_, fun h => ?_, HBZ.out⟩, by have := HIL.out; simp [intOf]; omega⟩
          · have h1 := of_decide_eq_true h
            by_cases e : j = i
            · subst e; rw [HXX.out, HSD.out]; exact h1
            · exact HYES.out rfl j (by omega)
          · have h1 := of_decide_eq_false h
            exact ⟨i, by omega, by rw [HXX.out, HSD.out]; omega⟩
      obtain rfl : i = g.cs.length := by omega
      have hjj : ¬ (g.cs.length : Int) < (g.cs.length : Int) := by omega
      have HBO := Lib.hid (HB6.out.trans (hbi.mono HB6.out.size))
      clear kp kq kg hil hi hbi
      cases b with
      | true =>
        have HV := Lib.hid (show partedL f.cs g.cs = true from (parted_iff _ _).2 ⟨k, HKL.out, fun j hj => by rw [HED.out]; exact HYES.out rfl j hj⟩)
        go_wp2_with fail
        go_ret
        exact ⟨by rw [HV.out]; try rfl, HBWI.out⟩
      | false =>
        have HNX := Lib.hid (show ∀ j, j < k + 1 → ∃ i, i < g.cs.length ∧ 0 < (edgN f.cs j).side (cor g.cs i) from fun j hj => by
          by_cases e : j = k
          · subst e; rw [HED.out]; exact HNOT.out rfl
          · exact HNO.out j (by omega))
        go_wp2_with fail
        exact ⟨⟨k + 1, by have := HKL.out; omega, by simp, HNX.out, HBO.out⟩, by have := HKL.out; simp [intOf]; omega⟩
end Go.Proofs.Ytpdgcajbdaleeaa
