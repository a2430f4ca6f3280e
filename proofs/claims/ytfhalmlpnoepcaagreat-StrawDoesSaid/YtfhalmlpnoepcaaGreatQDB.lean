/- Two heaps are joined (thatchref02.merged). No condition but that the store may be. A heap is bound (thatchref02.bound). No condition but that the store may be. The chores year, cut, join and bind (thatchref02.done). No condition but that the store may be. The chores rot and use (thatchref02.done). No condition but that the store may be. -/
import Derived.Test.YtfhalmlpnoepcaaGreatQDA
import Derived.BigRegion
namespace Go.Proofs.YtfhalmlpnoepcaaGreat
section
set_option linter.unusedSimpArgs false
open Go.RowKit

theorem same_set (l : List Hep) (i : Nat) {x y : Hep} (h : SameHep x y) : sameH (l.set i x) (l.set i y) := (sameH.refl l).set i h
theorem blk2 (w : World) (t : TypeId) (x y : Array Value) : Blk ((w.alloc (.cells x t)).alloc (.cells y t)).drew w.heap.size x t ∧ Blk ((w.alloc (.cells x t)).alloc (.cells y t)).drew (w.heap.size + 1) y t ∧ Below w.heap.size w ((w.alloc (.cells x t)).alloc (.cells y t)).drew := by
  have h1 := ((Blk.new w t x).alloc (.cells y t)).drew
  have h2 := (Blk.new (w.alloc (.cells x t)) t y).drew
  rw [World.size_alloc] at h2
  exact ⟨h1, h2, (((Below.refl _ _).alloc (Nat.le_refl _) _).alloc (by simp) _).drew⟩

set_option maxRecDepth 100000 in
set_option maxHeartbeats 32000000 in
theorem refMerged_any (base : Nat) (F : Frm) (S : Sto) (a : Chr) (i : Nat) (x : Hep) (w : World) (hS : Rst base w S) (hbase : base ≤ w.heap.size) (hE : storeE F S = 0) (hfit : S.fit) (hi : idxH S.heaps a.name = (i : Int)) (hx : S.heaps[i]? = some x) :
    Calls Tryz.prog 49 #[.agg #[.int .i64 S.year, .slice S.la S.last.length S.lc, .slice S.ga S.given.length S.gc, .slice S.ha S.heaps.length S.hc, .slice S.ua S.used.length S.uc, .slice S.wa S.waste.length S.wc], .int .i64 (i : Int), .string a.other] w (ChMade base S (joinD S a) w) := by
  have k1 := (Blk.new w 29 #[.int .i64 S.year, .slice S.la S.last.length S.lc, .slice S.ga S.given.length S.gc, .slice S.ha S.heaps.length S.hc, .slice S.ua S.used.length S.uc, .slice S.wa S.waste.length S.wc]).alloc (.cells #[.int .i64 0, .slice none 0 0, .slice none 0 0, .slice none 0 0, .slice none 0 0, .slice none 0 0] 29)
  have k2 := Blk.new (w.alloc (.cells #[.int .i64 S.year, .slice S.la S.last.length S.lc, .slice S.ga S.given.length S.gc, .slice S.ha S.heaps.length S.hc, .slice S.ua S.used.length S.uc, .slice S.wa S.waste.length S.wc] 29)) 29 #[.int .i64 0, .slice none 0 0, .slice none 0 0, .slice none 0 0, .slice none 0 0, .slice none 0 0]
  rw [World.size_alloc] at k2
  have hb1 : Below w.heap.size w ((w.alloc (.cells #[.int .i64 S.year, .slice S.la S.last.length S.lc, .slice S.ga S.given.length S.gc, .slice S.ha S.heaps.length S.hc, .slice S.ua S.used.length S.uc, .slice S.wa S.waste.length S.wc] 29)).alloc (.cells #[.int .i64 0, .slice none 0 0, .slice none 0 0, .slice none 0 0, .slice none 0 0, .slice none 0 0] 29)) := ((Below.refl _ w).alloc (Nat.le_refl _) _).alloc (by simp) _
  have HS := Lib.hid hS
  have HBASE := Lib.hid hbase
  have HE := Lib.hid hE
  have HFIT := Lib.hid hfit
  have HI := Lib.hid hi
  have HX := Lib.hid hx
  have HXH := Lib.hid (hepAt_of hi hx)
  have HXM := Lib.hid (List.mem_of_getElem? hx)
  have HXO := Lib.hid (heap_ok hE hfit (List.mem_of_getElem? hx))
  have HIL := Lib.hid (List.getElem?_eq_some_iff.1 hx).1
  have HHL := Lib.hid hfit.heaps
  clear hS hbase hE hfit hi hx
  go_enter Tryz.func49, Tryz.ntmps49
  go_upto_region 1 with fail
  generalize ((w.alloc (.cells #[.int .i64 S.year, .slice S.la S.last.length S.lc, .slice S.ga S.given.length S.gc, .slice S.ha S.heaps.length S.hc, .slice S.ua S.used.length S.uc, .slice S.wa S.waste.length S.wc] 29)).alloc (.cells #[.int .i64 0, .slice none 0 0, .slice none 0 0, .slice none 0 0, .slice none 0 0, .slice none 0 0] 29)) = w1 at *
  have HB1 := Lib.hid (show Turn (Hot S) w w1 from Turn.of_below hb1)
  have HSZ1 := Lib.hid (Nat.le_trans HBASE.out hb1.size)
  have HWW1 := Lib.hid hb1.size
  have KS1 := Lib.hid k1
  have KR1 := Lib.hid k2
  have HS1 := Lib.hid (HS.out.below hb1)
  have HSZR := Lib.hid (show w.heap.size + 1 < w1.heap.size from k2.lt)
  clear k1 k2 hb1
  obtain ⟨d0, d1, d2, d3, d4, d5⟩ := sto_cells (S := S) KS1.out
  have dl := KS1.out.lt
  go_wp2_with fail
  refine (refAt_any S a.other _ (HS1.out.store.heaps)).mono ?_
  rintro e w2 ⟨rfl, hb⟩
  clear d0 d1 d2 d3 d4 d5 dl
  have KS2 := Lib.hid (KS1.out.belowS hb)
  have KR2 := Lib.hid (KR1.out.belowS hb)
  have HB2 := Lib.hid (HB1.out.trans (Turn.of_below hb))
  have HSZ2 := Lib.hid (Nat.le_trans HSZ1.out hb.size)
  have HS2 := Lib.hid (HS1.out.below hb)
  clear hb KS1 KR1
  obtain ⟨ix, hix⟩ : ∃ ix, idxH S.heaps a.other = ix := ⟨_, rfl⟩
  have HIX := Lib.hid hix
  rw [hix]
  clear hix
  obtain ⟨d0, d1, d2, d3, d4, d5⟩ := sto_cells (S := S) KS2.out
  have dl := KS2.out.lt
  by_cases h3 : ix < 0
  · have HV := Lib.hid (show (joinD S a).1 = 7 by unfold joinD; rw [if_neg (by rw [HI.out]; omega), if_pos (by rw [HIX.out]; exact h3)])
    obtain ⟨rr0, rr1, rr2, rr3, rr4, rr5⟩ := zero_cells KR2.out
    have rrl := KR2.out.lt
    have rrz0 := KR2.out.frozen 0
    have rrz1 := KR2.out.frozen 1
    have rrz2 := KR2.out.frozen 2
    have rrz3 := KR2.out.frozen 3
    have rrz4 := KR2.out.frozen 4
    have rrz5 := KR2.out.frozen 5
    go_wp2_with fail
    refine put_end S KR2.out (Φ := bodyPost _ _ _ _ _) (fun wf ht kf => ?_)
    obtain ⟨g0, g1, g2, g3, g4, g5⟩ := sto_cells (S := S) kf
    exact bodyPost_ret (v := .tuple #[.agg #[.int .i64 S.year, .slice S.la S.last.length S.lc, .slice S.ga S.given.length S.gc, .slice S.ha S.heaps.length S.hc, .slice S.ua S.used.length S.uc, .slice S.wa S.waste.length S.wc], .int .i64 7]) (by simp [results, Tryz.results49, go_sem, g0, g1, g2, g3, g4, g5]) rfl (ChMade.err S HV.out (by decide) (HB2.out.far ht (fun k e => by rw [show k = w.heap.size + 1 from e]; omega)))
  have hix2 := idxH_at (show 0 ≤ idxH S.heaps a.other by rw [HIX.out]; omega)
  obtain ⟨m, y, hm1, hm2, hm3, _⟩ := hix2
  obtain rfl : ix = (m : Int) := by rw [← HIX.out, hm1]
  have HYH := Lib.hid (hepAt_of hm1 hm3)
  have HY := Lib.hid hm3
  have HYM := Lib.hid (List.mem_of_getElem? hm3)
  have HYO := Lib.hid (heap_ok HE.out HFIT.out (List.mem_of_getElem? hm3))
  have HML := Lib.hid hm2
  clear hm1 hm2 hm3
  by_cases hmi : m = i
  · have hmb : ((m : Int) == (i : Int)) = true := by simp [hmi]
    have HV := Lib.hid (show (joinD S a).1 = 10 by unfold joinD; rw [if_neg (by rw [HI.out]; omega), if_neg (by rw [HIX.out]; omega), if_pos (by rw [HI.out, HIX.out, hmi])])
    clear hmi
    obtain ⟨rr0, rr1, rr2, rr3, rr4, rr5⟩ := zero_cells KR2.out
    have rrl := KR2.out.lt
    have rrz0 := KR2.out.frozen 0
    have rrz1 := KR2.out.frozen 1
    have rrz2 := KR2.out.frozen 2
    have rrz3 := KR2.out.frozen 3
    have rrz4 := KR2.out.frozen 4
    have rrz5 := KR2.out.frozen 5
    go_wp2_with fail
    refine put_end S KR2.out (Φ := bodyPost _ _ _ _ _) (fun wf ht kf => ?_)
    obtain ⟨g0, g1, g2, g3, g4, g5⟩ := sto_cells (S := S) kf
    exact bodyPost_ret (v := .tuple #[.agg #[.int .i64 S.year, .slice S.la S.last.length S.lc, .slice S.ga S.given.length S.gc, .slice S.ha S.heaps.length S.hc, .slice S.ua S.used.length S.uc, .slice S.wa S.waste.length S.wc], .int .i64 10]) (by simp [results, Tryz.results49, go_sem, g0, g1, g2, g3, g4, g5]) rfl (ChMade.err S HV.out (by decide) (HB2.out.far ht (fun k e => by rw [show k = w.heap.size + 1 from e]; omega)))
  have hmb : ((m : Int) == (i : Int)) = false := by simp; omega
  have HMI := Lib.hid (show ¬ (i : Int) = (m : Int) by omega)
  clear hmi
  go_upto_region 6 with fail
  clear hmb h3
  obtain ⟨g, hg, hgb, hcap, hcx, hcs, hfz⟩ := HS2.out.heapAt HX.out
  obtain ⟨g', hg', _, _, _, hcs', _⟩ := HS2.out.heapAt HY.out
  obtain rfl : g = g' := by rw [hg] at hg'; injection hg' with h; injection h
  have HGB := Lib.hid (show base ≤ g ∧ g < w.heap.size from own_geq HS.out.heaps (k := g) (by rw [hg]; rfl))
  have HG := Lib.hid hg
  have hst : ∀ w', Below w2.heap.size w2 w' → w'.cell? ⟨w.heap.size, 3, none⟩ = some (.slice (some ⟨g, 0, none⟩) S.heaps.length S.hc) ∧ w'.cell? ⟨g, i * 7, none⟩ = some (.string x.name) ∧ w'.cell? ⟨g, i * 7 + 1, none⟩ = some (.int .i64 x.crop) ∧ w'.cell? ⟨g, i * 7 + 2, none⟩ = some (.int .i64 x.stage) ∧ w'.cell? ⟨g, i * 7 + 3, none⟩ = some (.slice x.pa x.parts.length x.pc) ∧ w'.cell? ⟨g, i * 7 + 4, none⟩ = some (.int .i64 x.per) ∧ w'.cell? ⟨g, i * 7 + 5, none⟩ = some (.int .i64 x.wlo) ∧ w'.cell? ⟨g, i * 7 + 6, none⟩ = some (.int .i64 x.whi) ∧ w'.cell? ⟨g, m * 7, none⟩ = some (.string y.name) ∧ w'.cell? ⟨g, m * 7 + 1, none⟩ = some (.int .i64 y.crop) ∧ w'.cell? ⟨g, m * 7 + 2, none⟩ = some (.int .i64 y.stage) ∧ w'.cell? ⟨g, m * 7 + 3, none⟩ = some (.slice y.pa y.parts.length y.pc) ∧ w'.cell? ⟨g, m * 7 + 4, none⟩ = some (.int .i64 y.per) ∧ w'.cell? ⟨g, m * 7 + 5, none⟩ = some (.int .i64 y.wlo) ∧ w'.cell? ⟨g, m * 7 + 6, none⟩ = some (.int .i64 y.whi) := fun w' hb => by
    have y1 := KS2.out.belowS hb
    have hc : ∀ o, w'.cell? ⟨g, o, none⟩ = w2.cell? ⟨g, o, none⟩ := fun o => hb.cell (p := ⟨g, o, none⟩) hgb.2
    have e3 := y1.cell 3
    rw [hg] at e3
    exact ⟨e3, (hc _).trans (hcs 0 _ rfl), (hc _).trans (hcs 1 _ rfl), (hc _).trans (hcs 2 _ rfl), (hc _).trans (hcs 3 _ rfl), (hc _).trans (hcs 4 _ rfl), (hc _).trans (hcs 5 _ rfl), (hc _).trans (hcs 6 _ rfl), (hc _).trans (hcs' 0 _ rfl), (hc _).trans (hcs' 1 _ rfl), (hc _).trans (hcs' 2 _ rfl), (hc _).trans (hcs' 3 _ rfl), (hc _).trans (hcs' 4 _ rfl), (hc _).trans (hcs' 5 _ rfl), (hc _).trans (hcs' 6 _ rfl)⟩
  have HST := Lib.hid hst
  have hi0 : (0 : Int) ≤ (i : Int) := Int.natCast_nonneg _
  have hi1 : (i : Int) < (S.heaps.length : Int) := by have := HIL.out; omega
  have hm0 : (0 : Int) ≤ (m : Int) := Int.natCast_nonneg _
  have hm1 : (m : Int) < (S.heaps.length : Int) := by have := HML.out; omega
  have lg2 := hgb.2
  have HLT2 := Lib.hid (show w.heap.size + 1 < w2.heap.size from KR2.out.lt)
  clear d0 d1 d2 d3 d4 d5 dl hg hg' hst hcs hcs' hfz hgb
  go_cut [9, 10] from 21 to 30 (fun s9 s10 wx => ∃ A B : Nat, s9 = .pointer (some ⟨A, 0, none⟩) ∧ s10 = .pointer (some ⟨B, 0, none⟩) ∧ Blk wx A #[.string x.name, .int .i64 x.crop, .int .i64 x.stage, .slice x.pa x.parts.length x.pc, .int .i64 x.per, .int .i64 x.wlo, .int .i64 x.whi] 53 ∧ Blk wx B #[.string y.name, .int .i64 y.crop, .int .i64 y.stage, .slice y.pa y.parts.length y.pc, .int .i64 y.per, .int .i64 y.wlo, .int .i64 y.whi] 53 ∧ (w2.heap.size ≤ A ∧ w2.heap.size ≤ B) ∧ Below w2.heap.size w2 wx)
  case first =>
    have lb := (show w.heap.size < w2.heap.size from by have := HLT2.out; omega)
    have g1 : ∀ o1, Below w2.heap.size w2 (w2.alloc o1) := fun o1 => (Below.refl _ _).alloc (Nat.le_refl _) _
    have g2 : ∀ o1 o2, Below w2.heap.size w2 ((w2.alloc o1).alloc o2) := fun o1 o2 => (g1 o1).alloc (by simp) _
    have f00 : w2.cell? ⟨w.heap.size, 3, none⟩ = some (.slice (some ⟨g, 0, none⟩) S.heaps.length S.hc) := (HST.out _ (Below.refl _ _)).1
    have f01 : ∀ o1, (w2.alloc o1).cell? ⟨w.heap.size, 3, none⟩ = some (.slice (some ⟨g, 0, none⟩) S.heaps.length S.hc) := fun o1 => (HST.out _ (g1 o1)).1
    have f02 : ∀ o1 o2, ((w2.alloc o1).alloc o2).cell? ⟨w.heap.size, 3, none⟩ = some (.slice (some ⟨g, 0, none⟩) S.heaps.length S.hc) := fun o1 o2 => (HST.out _ (g2 o1 o2)).1
    have f10 : w2.cell? ⟨g, i * 7, none⟩ = some (.string x.name) := (HST.out _ (Below.refl _ _)).2.1
    have f11 : ∀ o1, (w2.alloc o1).cell? ⟨g, i * 7, none⟩ = some (.string x.name) := fun o1 => (HST.out _ (g1 o1)).2.1
    have f12 : ∀ o1 o2, ((w2.alloc o1).alloc o2).cell? ⟨g, i * 7, none⟩ = some (.string x.name) := fun o1 o2 => (HST.out _ (g2 o1 o2)).2.1
    have f20 : w2.cell? ⟨g, i * 7 + 1, none⟩ = some (.int .i64 x.crop) := (HST.out _ (Below.refl _ _)).2.2.1
    have f21 : ∀ o1, (w2.alloc o1).cell? ⟨g, i * 7 + 1, none⟩ = some (.int .i64 x.crop) := fun o1 => (HST.out _ (g1 o1)).2.2.1
    have f22 : ∀ o1 o2, ((w2.alloc o1).alloc o2).cell? ⟨g, i * 7 + 1, none⟩ = some (.int .i64 x.crop) := fun o1 o2 => (HST.out _ (g2 o1 o2)).2.2.1
    have f30 : w2.cell? ⟨g, i * 7 + 2, none⟩ = some (.int .i64 x.stage) := (HST.out _ (Below.refl _ _)).2.2.2.1
    have f31 : ∀ o1, (w2.alloc o1).cell? ⟨g, i * 7 + 2, none⟩ = some (.int .i64 x.stage) := fun o1 => (HST.out _ (g1 o1)).2.2.2.1
    have f32 : ∀ o1 o2, ((w2.alloc o1).alloc o2).cell? ⟨g, i * 7 + 2, none⟩ = some (.int .i64 x.stage) := fun o1 o2 => (HST.out _ (g2 o1 o2)).2.2.2.1
    have f40 : w2.cell? ⟨g, i * 7 + 3, none⟩ = some (.slice x.pa x.parts.length x.pc) := (HST.out _ (Below.refl _ _)).2.2.2.2.1
    have f41 : ∀ o1, (w2.alloc o1).cell? ⟨g, i * 7 + 3, none⟩ = some (.slice x.pa x.parts.length x.pc) := fun o1 => (HST.out _ (g1 o1)).2.2.2.2.1
    have f42 : ∀ o1 o2, ((w2.alloc o1).alloc o2).cell? ⟨g, i * 7 + 3, none⟩ = some (.slice x.pa x.parts.length x.pc) := fun o1 o2 => (HST.out _ (g2 o1 o2)).2.2.2.2.1
    have f50 : w2.cell? ⟨g, i * 7 + 4, none⟩ = some (.int .i64 x.per) := (HST.out _ (Below.refl _ _)).2.2.2.2.2.1
    have f51 : ∀ o1, (w2.alloc o1).cell? ⟨g, i * 7 + 4, none⟩ = some (.int .i64 x.per) := fun o1 => (HST.out _ (g1 o1)).2.2.2.2.2.1
    have f52 : ∀ o1 o2, ((w2.alloc o1).alloc o2).cell? ⟨g, i * 7 + 4, none⟩ = some (.int .i64 x.per) := fun o1 o2 => (HST.out _ (g2 o1 o2)).2.2.2.2.2.1
    have f60 : w2.cell? ⟨g, i * 7 + 5, none⟩ = some (.int .i64 x.wlo) := (HST.out _ (Below.refl _ _)).2.2.2.2.2.2.1
    have f61 : ∀ o1, (w2.alloc o1).cell? ⟨g, i * 7 + 5, none⟩ = some (.int .i64 x.wlo) := fun o1 => (HST.out _ (g1 o1)).2.2.2.2.2.2.1
    have f62 : ∀ o1 o2, ((w2.alloc o1).alloc o2).cell? ⟨g, i * 7 + 5, none⟩ = some (.int .i64 x.wlo) := fun o1 o2 => (HST.out _ (g2 o1 o2)).2.2.2.2.2.2.1
    have f70 : w2.cell? ⟨g, i * 7 + 6, none⟩ = some (.int .i64 x.whi) := (HST.out _ (Below.refl _ _)).2.2.2.2.2.2.2.1
    have f71 : ∀ o1, (w2.alloc o1).cell? ⟨g, i * 7 + 6, none⟩ = some (.int .i64 x.whi) := fun o1 => (HST.out _ (g1 o1)).2.2.2.2.2.2.2.1
    have f72 : ∀ o1 o2, ((w2.alloc o1).alloc o2).cell? ⟨g, i * 7 + 6, none⟩ = some (.int .i64 x.whi) := fun o1 o2 => (HST.out _ (g2 o1 o2)).2.2.2.2.2.2.2.1
    have f80 : w2.cell? ⟨g, m * 7, none⟩ = some (.string y.name) := (HST.out _ (Below.refl _ _)).2.2.2.2.2.2.2.2.1
    have f81 : ∀ o1, (w2.alloc o1).cell? ⟨g, m * 7, none⟩ = some (.string y.name) := fun o1 => (HST.out _ (g1 o1)).2.2.2.2.2.2.2.2.1
    have f82 : ∀ o1 o2, ((w2.alloc o1).alloc o2).cell? ⟨g, m * 7, none⟩ = some (.string y.name) := fun o1 o2 => (HST.out _ (g2 o1 o2)).2.2.2.2.2.2.2.2.1
    have f90 : w2.cell? ⟨g, m * 7 + 1, none⟩ = some (.int .i64 y.crop) := (HST.out _ (Below.refl _ _)).2.2.2.2.2.2.2.2.2.1
    have f91 : ∀ o1, (w2.alloc o1).cell? ⟨g, m * 7 + 1, none⟩ = some (.int .i64 y.crop) := fun o1 => (HST.out _ (g1 o1)).2.2.2.2.2.2.2.2.2.1
    have f92 : ∀ o1 o2, ((w2.alloc o1).alloc o2).cell? ⟨g, m * 7 + 1, none⟩ = some (.int .i64 y.crop) := fun o1 o2 => (HST.out _ (g2 o1 o2)).2.2.2.2.2.2.2.2.2.1
    have f100 : w2.cell? ⟨g, m * 7 + 2, none⟩ = some (.int .i64 y.stage) := (HST.out _ (Below.refl _ _)).2.2.2.2.2.2.2.2.2.2.1
    have f101 : ∀ o1, (w2.alloc o1).cell? ⟨g, m * 7 + 2, none⟩ = some (.int .i64 y.stage) := fun o1 => (HST.out _ (g1 o1)).2.2.2.2.2.2.2.2.2.2.1
    have f102 : ∀ o1 o2, ((w2.alloc o1).alloc o2).cell? ⟨g, m * 7 + 2, none⟩ = some (.int .i64 y.stage) := fun o1 o2 => (HST.out _ (g2 o1 o2)).2.2.2.2.2.2.2.2.2.2.1
    have f110 : w2.cell? ⟨g, m * 7 + 3, none⟩ = some (.slice y.pa y.parts.length y.pc) := (HST.out _ (Below.refl _ _)).2.2.2.2.2.2.2.2.2.2.2.1
    have f111 : ∀ o1, (w2.alloc o1).cell? ⟨g, m * 7 + 3, none⟩ = some (.slice y.pa y.parts.length y.pc) := fun o1 => (HST.out _ (g1 o1)).2.2.2.2.2.2.2.2.2.2.2.1
    have f112 : ∀ o1 o2, ((w2.alloc o1).alloc o2).cell? ⟨g, m * 7 + 3, none⟩ = some (.slice y.pa y.parts.length y.pc) := fun o1 o2 => (HST.out _ (g2 o1 o2)).2.2.2.2.2.2.2.2.2.2.2.1
    have f120 : w2.cell? ⟨g, m * 7 + 4, none⟩ = some (.int .i64 y.per) := (HST.out _ (Below.refl _ _)).2.2.2.2.2.2.2.2.2.2.2.2.1
    have f121 : ∀ o1, (w2.alloc o1).cell? ⟨g, m * 7 + 4, none⟩ = some (.int .i64 y.per) := fun o1 => (HST.out _ (g1 o1)).2.2.2.2.2.2.2.2.2.2.2.2.1
    have f122 : ∀ o1 o2, ((w2.alloc o1).alloc o2).cell? ⟨g, m * 7 + 4, none⟩ = some (.int .i64 y.per) := fun o1 o2 => (HST.out _ (g2 o1 o2)).2.2.2.2.2.2.2.2.2.2.2.2.1
    have f130 : w2.cell? ⟨g, m * 7 + 5, none⟩ = some (.int .i64 y.wlo) := (HST.out _ (Below.refl _ _)).2.2.2.2.2.2.2.2.2.2.2.2.2.1
    have f131 : ∀ o1, (w2.alloc o1).cell? ⟨g, m * 7 + 5, none⟩ = some (.int .i64 y.wlo) := fun o1 => (HST.out _ (g1 o1)).2.2.2.2.2.2.2.2.2.2.2.2.2.1
    have f132 : ∀ o1 o2, ((w2.alloc o1).alloc o2).cell? ⟨g, m * 7 + 5, none⟩ = some (.int .i64 y.wlo) := fun o1 o2 => (HST.out _ (g2 o1 o2)).2.2.2.2.2.2.2.2.2.2.2.2.2.1
    have f140 : w2.cell? ⟨g, m * 7 + 6, none⟩ = some (.int .i64 y.whi) := (HST.out _ (Below.refl _ _)).2.2.2.2.2.2.2.2.2.2.2.2.2.2
    have f141 : ∀ o1, (w2.alloc o1).cell? ⟨g, m * 7 + 6, none⟩ = some (.int .i64 y.whi) := fun o1 => (HST.out _ (g1 o1)).2.2.2.2.2.2.2.2.2.2.2.2.2.2
    have f142 : ∀ o1 o2, ((w2.alloc o1).alloc o2).cell? ⟨g, m * 7 + 6, none⟩ = some (.int .i64 y.whi) := fun o1 o2 => (HST.out _ (g2 o1 o2)).2.2.2.2.2.2.2.2.2.2.2.2.2.2
    clear g1 g2
    go_region
    all_goals go_wp2_with fail
    all_goals go_meet
    all_goals refine ⟨_, _, rfl, rfl, ?_, ?_, ?_, ?_⟩
    all_goals first | exact (blk2 _ _ _ _).1 | exact (blk2 _ _ _ _).2.1 | exact (blk2 _ _ _ _).2.2 | omega
  obtain ⟨A, B, rfl, rfl, kA, kB, hAB, hb3⟩ := hcut
  obtain ⟨w4, rfl⟩ : ∃ w4 : World, w4 = wc := ⟨_, rfl⟩
  have KS4 := Lib.hid (KS2.out.belowS hb3)
  have KR4 := Lib.hid (KR2.out.belowS hb3)
  have HB4 := Lib.hid (HB2.out.trans (Turn.of_below hb3))
  have HSZ4 := Lib.hid (Nat.le_trans HSZ2.out hb3.size)
  have HS4 := Lib.hid (HS2.out.below hb3)
  have KA4 := Lib.hid kA
  have KB4 := Lib.hid kB
  have HA4 := Lib.hid (show w.heap.size + 1 + 1 ≤ w4.heap.size by have := kA.lt; have := HLT2.out; omega)
  have HAB := Lib.hid (show w.heap.size + 1 < A ∧ w.heap.size + 1 < B by have := HLT2.out; omega)
  clear kA kB hAB hb3 KS2 KR2 HS2 lg2
  obtain ⟨d0, d1, d2, d3, d4, d5⟩ := sto_cells (S := S) KS4.out
  have dl := KS4.out.lt
  obtain ⟨x0, x1, x2, x3, x4, x5, x6⟩ := hepB_cells KA4.out
  have xl := KA4.out.lt
  obtain ⟨y0, y1, y2, y3, y4, y5, y6⟩ := hepB_cells KB4.out
  have yl := KB4.out.lt
  obtain ⟨b5, hb5⟩ : ∃ b5, decide (x.crop = y.crop ∧ x.stage = y.stage ∧ x.stage ≠ 3) = b5 := ⟨_, rfl⟩
  have H5 := Lib.hid hb5
  clear hb5
  go_upto_region 7 with fail
  go_cut [47] from 31 to 47 (fun s47 wx => s47 = .bool (!b5) ∧ wx = w4)
  case first =>
    by_cases h1 : x.crop = y.crop
    rotate_left
    · have q1 : (x.crop == y.crop) = false := by simp [h1]
      have q2 : (x.crop != y.crop) = true := by simp [h1]
      go_wp2_with fail
      go_meet
      exact ⟨by rw [← H5.out, decide_eq_false (fun h => h1 h.1)]; rfl, rfl⟩
    have q1 : (x.crop == y.crop) = true := by simp [h1]
    have q2 : (x.crop != y.crop) = false := by simp [h1]
    by_cases h2 : x.stage = y.stage
    rotate_left
    · have q3 : (x.stage == y.stage) = false := by simp [h2]
      have q4 : (x.stage != y.stage) = true := by simp [h2]
      have HN1 := Lib.hid (show ¬ (x.crop = y.crop ∧ x.stage = y.stage ∧ x.stage ≠ 3) from fun h => h2 h.2.1)
      clear h1 h2
      go_wp2_with fail
      go_meet
      exact ⟨by rw [← H5.out, decide_eq_false HN1.out]; rfl, rfl⟩
    have q3 : (x.stage == y.stage) = true := by simp [h2]
    have q4 : (x.stage != y.stage) = false := by simp [h2]
    by_cases h3 : x.stage = 3
    · have q5 : (x.stage == 3) = true := by simp [h3]
      have HN1 := Lib.hid (show ¬ (x.crop = y.crop ∧ x.stage = y.stage ∧ x.stage ≠ 3) from fun h => h.2.2 h3)
      clear h1 h2 h3
      go_wp2_with fail
      go_meet
      exact ⟨by rw [← H5.out, decide_eq_false HN1.out]; rfl, rfl⟩
    · have q5 : (x.stage == 3) = false := by simp [h3]
      have HN1 := Lib.hid (show x.crop = y.crop ∧ x.stage = y.stage ∧ x.stage ≠ 3 from ⟨h1, h2, h3⟩)
      clear h1 h2 h3
      go_wp2_with fail
      go_meet
      exact ⟨by rw [← H5.out, decide_eq_true HN1.out]; rfl, rfl⟩
  obtain ⟨rfl, hw4⟩ := hcut
  subst hw4
  obtain ⟨w4, rfl⟩ : ∃ w4 : World, w4 = wc := ⟨_, rfl⟩
  cases b5 with
  | false =>
    have HV := Lib.hid (show (joinD S a).1 = 8 by
      have h5 := of_decide_eq_false H5.out
      unfold joinD; rw [if_neg (by rw [HI.out]; omega), if_neg (by rw [HIX.out]; omega), if_neg (by rw [HI.out, HIX.out]; exact HMI.out), if_pos (by rw [HXH.out, HYH.out]; exact h5)])
    obtain ⟨rr0, rr1, rr2, rr3, rr4, rr5⟩ := zero_cells KR4.out
    have rrl := KR4.out.lt
    have rrz0 := KR4.out.frozen 0
    have rrz1 := KR4.out.frozen 1
    have rrz2 := KR4.out.frozen 2
    have rrz3 := KR4.out.frozen 3
    have rrz4 := KR4.out.frozen 4
    have rrz5 := KR4.out.frozen 5
    go_wp2_with fail
    refine put_end S KR4.out (Φ := bodyPost _ _ _ _ _) (fun wf ht kf => ?_)
    obtain ⟨g0, g1, g2, g3, g4, g5⟩ := sto_cells (S := S) kf
    exact bodyPost_ret (v := .tuple #[.agg #[.int .i64 S.year, .slice S.la S.last.length S.lc, .slice S.ga S.given.length S.gc, .slice S.ha S.heaps.length S.hc, .slice S.ua S.used.length S.uc, .slice S.wa S.waste.length S.wc], .int .i64 8]) (by simp [results, Tryz.results49, go_sem, g0, g1, g2, g3, g4, g5]) rfl (ChMade.err S HV.out (by decide) (HB4.out.far ht (fun k e => by rw [show k = w.heap.size + 1 from e]; omega)))
  | true =>
  have HCC := Lib.hid (of_decide_eq_true H5.out)
  have lg := (show g < w4.heap.size from by have := HGB.out; have := HAB.out; have := KA4.out.lt; omega)
  have hst : ∀ w', Below w4.heap.size w4 w' → (fun w' : World => Below w4.heap.size w4 w' ∧ (w'.cell? ⟨w.heap.size, 3, none⟩ = some (.slice (some ⟨g, 0, none⟩) S.heaps.length S.hc) ∧ w'.cell? ⟨A, 3, none⟩ = some (.slice x.pa x.parts.length x.pc) ∧ w'.cell? ⟨B, 3, none⟩ = some (.slice y.pa y.parts.length y.pc))) w' := fun w' hb => by
    have y1 := KS4.out.belowS hb
    have y2 := KA4.out.belowS hb
    have y3 := KB4.out.belowS hb
    have e3 := y1.cell 3
    rw [HG.out] at e3
    exact ⟨hb, e3, y2.cell 3, y3.cell 3⟩
  have HSTW := Lib.hid hst
  clear hst lg
  have hx := HSTW.out w4.drew ((Below.refl _ w4).drew)
  go_upto_region 9 with fail
  clear d0 d1 d2 d3 d4 d5 dl x0 x1 x2 x3 x4 x5 x6 xl y0 y1 y2 y3 y4 y5 y6 yl
  refine wp_region_E 10 (fun w' : World => Below w4.heap.size w4 w' ∧ (w'.cell? ⟨w.heap.size, 3, none⟩ = some (.slice (some ⟨g, 0, none⟩) S.heaps.length S.hc) ∧ w'.cell? ⟨A, 3, none⟩ = some (.slice x.pa x.parts.length x.pc) ∧ w'.cell? ⟨B, 3, none⟩ = some (.slice y.pa y.parts.length y.pc))) (by kernel_rfl) ?_
  refine tk 0 rfl hx (v := ?v1) (.inl ⟨by rfl, ?y1⟩) ?r1
  case y1 => intro w' h; (try dsimp only at h); go_simp; try with_reducible rfl
  refine tk 1 rfl hx (v := ?v2) (.inl ⟨by rfl, ?y2⟩) ?r2
  case y2 => intro w' h; (try dsimp only at h); go_simp; try with_reducible rfl
  refine tk 2 rfl hx (v := ?v3) (.inl ⟨by rfl, ?y3⟩) ?r3
  case y3 => intro w' h; (try dsimp only at h); go_simp; try with_reducible rfl
  try simp only [Act.put, List.getElem_toArray, List.getElem_cons_zero, List.getElem_cons_succ, List.setIfInBounds_toArray, List.set_cons_zero, List.set_cons_succ]
  refine tk 3 rfl hx (v := ?v4) (.inl ⟨by rfl, ?y4⟩) ?r4
  case y4 => intro w' h; (try dsimp only at h); go_simp; try with_reducible rfl
  refine tk 4 rfl hx (v := ?v5) (.inl ⟨by rfl, ?y5⟩) ?r5
  case y5 => intro w' h; (try dsimp only at h); go_simp; try with_reducible rfl
  refine tk 5 rfl hx (v := ?v6) (.inl ⟨by rfl, ?y6⟩) ?r6
  case y6 => intro w' h; (try dsimp only at h); go_simp; try with_reducible rfl
  try simp only [Act.put, List.getElem_toArray, List.getElem_cons_zero, List.getElem_cons_succ, List.setIfInBounds_toArray, List.set_cons_zero, List.set_cons_succ]
  refine tk 6 rfl hx (v := ?v7) (.inl ⟨by rfl, ?y7⟩) ?r7
  case y7 => intro w' h; (try dsimp only at h); go_simp; try with_reducible rfl
  try simp only [Act.put, List.getElem_toArray, List.getElem_cons_zero, List.getElem_cons_succ, List.setIfInBounds_toArray, List.set_cons_zero, List.set_cons_succ]
  refine E_step (i := 7) (o := _) (by kernel_rfl) rfl (fun K hK => ?_)
  go_simp
  refine (refJoined_any x.pa y.pa x.pc y.pc x.parts y.parts _ ((HS4.out.below hx.1).parts x HXM.out).1.1 ((HS4.out.below hx.1).parts y HYM.out).1.1 (fun p hp => by have := (HXO.out.1 p hp).2; omega) (fun p hp => (HYO.out.1 p hp).2) (by have := HXO.out.2.2.1; omega) (by have := HYO.out.2.2.1; omega)).mono ?_
  rintro e w5 ⟨⟨a1, c1, rfl, hnew⟩, hb5⟩
  (try dsimp only)
  have HNW := Lib.hid (And.intro hnew hx.1.size)
  have hb45 : Below w4.heap.size w4 w5 := hx.1.trans (hb5.mono hx.1.size)
  refine hK.out _ _ (fun _ => HSTW.out w5 hb45) ?_
  clear hK K
  try simp only [Act.put, List.getElem_toArray, List.getElem_cons_zero, List.getElem_cons_succ, List.setIfInBounds_toArray, List.set_cons_zero, List.set_cons_succ]
  have hx5 := HSTW.out w5 hb45
  refine E_step (i := 8) (o := _) (by kernel_rfl) rfl (fun K hK => ?_)
  go_simp
  refine hK.out _ _ (fun _ => hx5) ?_
  clear hK K
  try simp only [Act.put, List.getElem_toArray, List.getElem_cons_zero, List.getElem_cons_succ, List.setIfInBounds_toArray, List.set_cons_zero, List.set_cons_succ]
  refine tk 9 rfl hx5 (v := ?v8) (.inl ⟨by rfl, ?y8⟩) ?r8
  case y8 => intro w' h; (try dsimp only at h); go_simp; try with_reducible rfl
  try simp only [Act.put, List.getElem_toArray, List.getElem_cons_zero, List.getElem_cons_succ, List.setIfInBounds_toArray, List.set_cons_zero, List.set_cons_succ]
  have hpw : ∃ P, putL x.parts y.parts = P := ⟨_, rfl⟩
  obtain ⟨P, hP⟩ := hpw
  rw [hP] at HNW ⊢
  have HP := Lib.hid hP
  clear hP hx hx5
  have KS5 := Lib.hid (KS4.out.belowS hb45)
  have KR5 := Lib.hid (KR4.out.belowS hb45)
  have KA5 := Lib.hid (KA4.out.belowS hb45)
  have KB5 := Lib.hid (KB4.out.belowS hb45)
  have HB5 := Lib.hid (HB4.out.trans (Turn.of_below hb45))
  have HSZ5 := Lib.hid (Nat.le_trans HSZ4.out hb45.size)
  have HS5 := Lib.hid (HS4.out.below hb45)
  have HC5 := Lib.hid (show Cool base w5 S a1 from HS4.out.cool HSZ4.out (fun k e => by have h1 := HNW.out.1.2 k e; have := HNW.out.2; omega))
  clear hb5 hb45 KS4 KR4 KA4 KB4
  obtain ⟨g', hg', hgb, hcap2, hcx2, hcs, hfz⟩ := HS5.out.heapAt HX.out
  obtain rfl : g = g' := by rw [HG.out] at hg'; injection hg' with h; injection h
  have c3 : w5.cell? ⟨g, i * 7 + 3, none⟩ = some (.slice x.pa x.parts.length x.pc) := hcs 3 _ rfl
  have z3 := hfz (i * 7 + 3)
  have lg := hgb.2
  have HNM := Lib.hid (HS.out.parts x HXM.out).1.2
  clear hg' hgb hcap2 hcx2 hcs hfz
  refine E_step (i := 10) (o := _) (by kernel_rfl) rfl (fun K hK => ?_)
  go_simp
  refine hK.out _ _ (fun h => absurd rfl h) ?_
  clear hK K
  try simp only [Act.put, List.getElem_toArray, List.getElem_cons_zero, List.getElem_cons_succ, List.setIfInBounds_toArray, List.set_cons_zero, List.set_cons_succ]
  refine E_done (by kernel_rfl) ?_ _
  have hT := HS5.out.write (j := 3) (y := { x with pa := a1, pc := c1, parts := P }) (v := .slice a1 P.length c1) HX.out HG.out (by omega) rfl ⟨HNW.out.1.1, HNM.out⟩ HC5.out
  have ht : Turn (fun k => k = g) w5 (w5.setCell ⟨g, i * 7 + 3, none⟩ (.slice a1 P.length c1)) := (Turn.of_below (X := fun k => k = g) (Below.refl _ w5)).setCell (B := g) rfl _ _
  have HP6 := Lib.hid (show IsPrts (w5.setCell ⟨g, i * 7 + 3, none⟩ (.slice a1 P.length c1)) a1 c1 P from HNW.out.1.1.turn ht (fun k e e2 => by have := (HC5.out k e).2.2.2; rw [HG.out] at this; exact this (by rw [show k = g from e2]; rfl)))
  generalize w5.setCell ⟨g, i * 7 + 3, none⟩ (.slice a1 P.length c1) = w6 at *
  have KS6 := Lib.hid (ht.blk KS5.out (fun e => by have := HGB.out; have := (show w.heap.size = g from e); omega))
  have KR6 := Lib.hid (ht.blk KR5.out (fun e => by have := HGB.out; have := (show w.heap.size + 1 = g from e); omega))
  have KA6 := Lib.hid (ht.blk KA5.out (fun e => by have := HGB.out; have := HAB.out; have := (show A = g from e); omega))
  have KB6 := Lib.hid (ht.blk KB5.out (fun e => by have := HGB.out; have := HAB.out; have := (show B = g from e); omega))
  have HB6 := Lib.hid (HB5.out.trans (ht.mono (fun k _ e => by rw [show k = g from e]; exact .inr (.inr (by rw [HG.out]; rfl)))))
  have HSZ6 := Lib.hid (Nat.le_trans HSZ5.out ht.size)
  have HS6 := Lib.hid hT
  have HC6 := Lib.hid (show Cool base w6 { S with heaps := S.heaps.set i { x with pa := a1, pc := c1, parts := P } } a1 from HC5.out.mono ht.size)
  clear c3 z3 lg hT ht KS5 KR5 KA5 KB5
  have HX6 := Lib.hid (show (S.heaps.set i { x with pa := a1, pc := c1, parts := P })[i]? = some { x with pa := a1, pc := c1, parts := P } by rw [List.getElem?_set_self HIL.out])
  obtain ⟨lo, hlo⟩ : ∃ lo, (if y.wlo < x.wlo then y.wlo else x.wlo) = lo := ⟨_, rfl⟩
  obtain ⟨up, hup⟩ : ∃ up, (if x.whi < y.whi then y.whi else x.whi) = up := ⟨_, rfl⟩
  obtain ⟨g', hg', hgb, hcap2, hcx2, hcs, hfz⟩ := HS6.out.heapAt HX6.out
  obtain rfl : g = g' := by have h0 : S.ha = _ := hg'; rw [HG.out] at h0; injection h0 with h; injection h
  have c5 : w6.cell? ⟨g, i * 7 + 5, none⟩ = some (.int .i64 x.wlo) := hcs 5 _ rfl
  have c6 : w6.cell? ⟨g, i * 7 + 6, none⟩ = some (.int .i64 x.whi) := hcs 6 _ rfl
  have z5 := hfz (i * 7 + 5)
  have z6 := hfz (i * 7 + 6)
  have lg := hgb.2
  obtain ⟨d0, d1, d2, d3, d4, d5⟩ := sto_cells (S := S) KS6.out
  have dl := KS6.out.lt
  obtain ⟨x0, x1, x2, x3, x4, x5, x6⟩ := hepB_cells KA6.out
  have xl := KA6.out.lt
  obtain ⟨y0, y1, y2, y3, y4, y5, y6⟩ := hepB_cells KB6.out
  have yl := KB6.out.lt
  rw [HG.out] at d3
  clear hg' hgb hcap2 hcx2 hcs hfz
  go_upto_region 11 with fail
  rw [show i * 7 + 5 + 1 = i * 7 + 6 by omega]
  have HLO := Lib.hid (show min x.wlo y.wlo = lo ∧ max x.whi y.whi = up from ⟨by rw [← hlo]; split <;> omega, by rw [← hup]; split <;> omega⟩)
  clear hlo hup
  have hT1 := HS6.out.write (j := 5) (y := { x with pa := a1, pc := c1, parts := P, wlo := lo }) (v := .int .i64 lo) HX6.out HG.out (by omega) rfl ⟨HP6.out, HNM.out⟩ HC6.out
  have ht : Turn (fun k => k = g) w6 ((w6.setCell ⟨g, i * 7 + 5, none⟩ (.int .i64 lo)).setCell ⟨g, i * 7 + 6, none⟩ (.int .i64 up)) := ((Turn.of_below (X := fun k => k = g) (Below.refl _ w6)).setCell (B := g) rfl _ _).setCell (B := g) rfl _ _
  have ht1 : Turn (fun k => k = g) w6 (w6.setCell ⟨g, i * 7 + 5, none⟩ (.int .i64 lo)) := (Turn.of_below (X := fun k => k = g) (Below.refl _ w6)).setCell (B := g) rfl _ _
  have hT := hT1.write (i := i) (j := 6) (x := { x with pa := a1, pc := c1, parts := P, wlo := lo }) (y := { x with pa := a1, pc := c1, parts := P, wlo := lo, whi := up }) (v := .int .i64 up) (by rw [List.getElem?_set_self (by rw [List.length_set]; exact HIL.out)]) HG.out (by omega) rfl ⟨HP6.out.turn ht1 (fun k e e2 => by have := (HC5.out k e).2.2.2; rw [HG.out] at this; exact this (by rw [show k = g from e2]; rfl)), HNM.out⟩ (HC6.out.mono ht1.size)
  generalize (w6.setCell ⟨g, i * 7 + 5, none⟩ (.int .i64 lo)).setCell ⟨g, i * 7 + 6, none⟩ (.int .i64 up) = w7 at *
  have KS7 := Lib.hid (ht.blk KS6.out (fun e => by have := HGB.out; have := (show w.heap.size = g from e); omega))
  have KR7 := Lib.hid (ht.blk KR6.out (fun e => by have := HGB.out; have := (show w.heap.size + 1 = g from e); omega))
  have HB7 := Lib.hid (HB6.out.trans (ht.mono (fun k _ e => by rw [show k = g from e]; exact .inr (.inr (by rw [HG.out]; rfl)))))
  have HSZ7 := Lib.hid (Nat.le_trans HSZ6.out ht.size)
  rw [List.set_set, List.set_set] at hT
  have HS7 := Lib.hid hT
  clear c5 c6 z5 z6 lg hT hT1 ht ht1 KS6 KR6 KA6 KB6
  clear d0 d1 d2 d3 d4 d5 dl x0 x1 x2 x3 x4 x5 x6 xl y0 y1 y2 y3 y4 y5 y6 yl
  have HLS := Lib.hid (show (S.heaps.set i { x with pa := a1, pc := c1, parts := P, wlo := lo, whi := up }).length = S.heaps.length from List.length_set ..)
  obtain ⟨d0, d1, d2, d3, d4, d5⟩ := sto_cells (S := S) KS7.out
  have dl := KS7.out.lt
  go_wp2_with fail
  refine (show Calls Tryz.prog 52 #[.agg #[.int .i64 S.year, .slice S.la S.last.length S.lc, .slice S.ga S.given.length S.gc, .slice S.ha S.heaps.length S.hc, .slice S.ua S.used.length S.uc, .slice S.wa S.waste.length S.wc], .int .i64 (m : Int)] w7 _ from by
    have h := refWithout_any base { S with heaps := S.heaps.set i { x with pa := a1, pc := c1, parts := P, wlo := lo, whi := up } } m w7 HS7.out HSZ7.out (by rw [HLS.out]; exact HML.out) (by rw [HLS.out]; exact HHL.out)
    simp only [HLS.out] at h
    exact h).mono ?_
  rintro e w8 ⟨⟨a2, c2, rfl, hT, hfr⟩, hb⟩
  clear d0 d1 d2 d3 d4 d5 dl
  have HS8 := Lib.hid hT
  have HFR := Lib.hid hfr
  have KR8 := Lib.hid (KR7.out.belowS hb)
  have HB8 := Lib.hid (HB7.out.trans (Turn.of_below hb))
  have HSZ8 := Lib.hid (Nat.le_trans HSZ7.out hb.size)
  have HW78 := Lib.hid hb.size
  have HSZ7' := Lib.hid (show w.heap.size + 1 < w7.heap.size from KR7.out.lt)
  clear hT hfr hb KS7 KR7
  unfold stoV
  dsimp only
  have HV := Lib.hid (show (joinD S a) = (0, { S with heaps := (S.heaps.set i { x with parts := P, wlo := lo, whi := up }).eraseIdx m }) by unfold joinD; rw [if_neg (by rw [HI.out]; omega), if_neg (by rw [HIX.out]; omega), if_neg (by rw [HI.out, HIX.out]; exact HMI.out), if_neg (by rw [HXH.out, HYH.out]; exact not_not_intro HCC.out), HXH.out, HYH.out, HP.out, HLO.out.1, HLO.out.2, HI.out, HIX.out, Int.toNat_natCast, Int.toNat_natCast])
  have HSM := Lib.hid (show sameH ((S.heaps.set i { x with pa := a1, pc := c1, parts := P, wlo := lo, whi := up }).eraseIdx m) ((S.heaps.set i { x with parts := P, wlo := lo, whi := up }).eraseIdx m) from (same_set S.heaps i (x := { x with pa := a1, pc := c1, parts := P, wlo := lo, whi := up }) (y := { x with parts := P, wlo := lo, whi := up }) ⟨rfl, rfl, rfl, rfl, rfl, rfl, rfl⟩).erase m)
  have HPAO := Lib.hid (show ∀ B, B < w.heap.size + 2 → Off B S → ∀ z ∈ (S.heaps.set i { x with pa := a1, pc := c1, parts := P, wlo := lo, whi := up }).eraseIdx m, z.pa.map (·.block) ≠ some B from fun B hB ho z hz => by
    rcases List.mem_or_eq_of_mem_set (List.mem_of_mem_eraseIdx hz) with hz | rfl
    · exact ho.pa z hz
    · intro e
      have h1 := (HNW.out.1.2 B e).1
      have := HNW.out.2
      have := HAB.out
      have := HA4.out
      omega)
  generalize (S.heaps.set i { x with pa := a1, pc := c1, parts := P, wlo := lo, whi := up }).eraseIdx m = H at *
  obtain ⟨rr0, rr1, rr2, rr3, rr4, rr5⟩ := zero_cells KR8.out
  have rrl := KR8.out.lt
  have rrz0 := KR8.out.frozen 0
  have rrz1 := KR8.out.frozen 1
  have rrz2 := KR8.out.frozen 2
  have rrz3 := KR8.out.frozen 3
  have rrz4 := KR8.out.frozen 4
  have rrz5 := KR8.out.frozen 5
  go_wp2_with fail
  have kf : Blk ((((((w8.setCell ⟨w.heap.size + 1, 0, none⟩ (.int .i64 S.year)).setCell ⟨w.heap.size + 1, 1, none⟩ (.slice S.la S.last.length S.lc)).setCell ⟨w.heap.size + 1, 2, none⟩ (.slice S.ga S.given.length S.gc)).setCell ⟨w.heap.size + 1, 3, none⟩ (.slice a2 H.length c2)).setCell ⟨w.heap.size + 1, 4, none⟩ (.slice S.ua S.used.length S.uc)).setCell ⟨w.heap.size + 1, 5, none⟩ (.slice S.wa S.waste.length S.wc)) (w.heap.size + 1) #[.int .i64 S.year, .slice S.la S.last.length S.lc, .slice S.ga S.given.length S.gc, .slice a2 H.length c2, .slice S.ua S.used.length S.uc, .slice S.wa S.waste.length S.wc] 29 := ((((((KR8.out.set 0 (.int .i64 S.year)).set 1 (.slice S.la S.last.length S.lc)).set 2 (.slice S.ga S.given.length S.gc)).set 3 (.slice a2 H.length c2)).set 4 (.slice S.ua S.used.length S.uc)).set 5 (.slice S.wa S.waste.length S.wc))
  have ht : Turn (fun k => k = w.heap.size + 1) w8 ((((((w8.setCell ⟨w.heap.size + 1, 0, none⟩ (.int .i64 S.year)).setCell ⟨w.heap.size + 1, 1, none⟩ (.slice S.la S.last.length S.lc)).setCell ⟨w.heap.size + 1, 2, none⟩ (.slice S.ga S.given.length S.gc)).setCell ⟨w.heap.size + 1, 3, none⟩ (.slice a2 H.length c2)).setCell ⟨w.heap.size + 1, 4, none⟩ (.slice S.ua S.used.length S.uc)).setCell ⟨w.heap.size + 1, 5, none⟩ (.slice S.wa S.waste.length S.wc)) := (((((((Turn.of_below (X := fun k => k = w.heap.size + 1) (Below.refl _ w8)).setCell (B := w.heap.size + 1) rfl 0 (.int .i64 S.year)).setCell (B := w.heap.size + 1) rfl 1 (.slice S.la S.last.length S.lc)).setCell (B := w.heap.size + 1) rfl 2 (.slice S.ga S.given.length S.gc)).setCell (B := w.heap.size + 1) rfl 3 (.slice a2 H.length c2)).setCell (B := w.heap.size + 1) rfl 4 (.slice S.ua S.used.length S.uc)).setCell (B := w.heap.size + 1) rfl 5 (.slice S.wa S.waste.length S.wc))
  generalize ((((((w8.setCell ⟨w.heap.size + 1, 0, none⟩ (.int .i64 S.year)).setCell ⟨w.heap.size + 1, 1, none⟩ (.slice S.la S.last.length S.lc)).setCell ⟨w.heap.size + 1, 2, none⟩ (.slice S.ga S.given.length S.gc)).setCell ⟨w.heap.size + 1, 3, none⟩ (.slice a2 H.length c2)).setCell ⟨w.heap.size + 1, 4, none⟩ (.slice S.ua S.used.length S.uc)).setCell ⟨w.heap.size + 1, 5, none⟩ (.slice S.wa S.waste.length S.wc)) = wf at *
  obtain ⟨g0, g1, g2, g3, g4, g5⟩ := (show wf.cell? ⟨w.heap.size + 1, 0, none⟩ = some (.int .i64 S.year) ∧ wf.cell? ⟨w.heap.size + 1, 1, none⟩ = some (.slice S.la S.last.length S.lc) ∧ wf.cell? ⟨w.heap.size + 1, 2, none⟩ = some (.slice S.ga S.given.length S.gc) ∧ wf.cell? ⟨w.heap.size + 1, 3, none⟩ = some (.slice a2 H.length c2) ∧ wf.cell? ⟨w.heap.size + 1, 4, none⟩ = some (.slice S.ua S.used.length S.uc) ∧ wf.cell? ⟨w.heap.size + 1, 5, none⟩ = some (.slice S.wa S.waste.length S.wc) from ⟨kf.cell 0, kf.cell 1, kf.cell 2, kf.cell 3, kf.cell 4, kf.cell 5⟩)
  have hoff : ∀ B, B < w.heap.size + 2 → Off B S → Off B { S with ha := a2, hc := c2, heaps := H } := fun B hB ho => ⟨ho.la, ho.ga, fun e => by have := HFR.out B e; have := HSZ7'.out; omega, ho.ua, ho.wa, HPAO.out B hB ho⟩
  refine bodyPost_ret (v := .tuple #[.agg #[.int .i64 S.year, .slice S.la S.last.length S.lc, .slice S.ga S.given.length S.gc, .slice a2 H.length c2, .slice S.ua S.used.length S.uc, .slice S.wa S.waste.length S.wc], .int .i64 0]) (by simp [results, Tryz.results49, go_sem, g0, g1, g2, g3, g4, g5]) rfl ⟨⟨{ S with ha := a2, hc := c2, heaps := H }, by rw [HV.out], fun _ => ⟨HS8.out.turnAt ht (hoff _ (by omega) (HS.out.off (.inl (by omega)))), ?_, fun B hB ho => hoff B (by omega) ho⟩⟩, HB8.out.far ht (fun k e => by rw [show k = w.heap.size + 1 from e]; omega)⟩
  rw [HV.out]
  exact ⟨rfl, rfl, rfl, rfl, rfl, HSM.out.1, HSM.out.2⟩
end
end Go.Proofs.YtfhalmlpnoepcaaGreat
namespace Go.Proofs.YtfhalmlpnoepcaaGreat
section
set_option linter.unusedSimpArgs false
open Go.RowKit

theorem div_facts {v p : Int} (hv : 0 ≤ v ∧ v ≤ 100000000) (hp : 1 ≤ p ∧ p ≤ 100) : v.tdiv p = v / p ∧ (0 ≤ v / p ∧ v / p ≤ 100000000) ∧ (v / p = 0 ↔ v < p) ∧ v / p * p = v - v % p ∧ (0 ≤ v / p * p ∧ v / p * p ≤ v) := by
  have h0 : 0 ≤ v / p := Int.ediv_nonneg hv.1 (by omega)
  have h1 := Int.emod_nonneg v (show p ≠ 0 by omega)
  have h2 := Int.emod_lt_of_pos v (show 0 < p by omega)
  have h3 : p * (v / p) + v % p = v := Int.mul_ediv_add_emod v p
  have h4 : v / p * p = p * (v / p) := Int.mul_comm _ _
  have h5 : v / p ≤ v := Int.ediv_le_self _ hv.1
  refine ⟨Int.tdiv_eq_ediv_of_nonneg hv.1, ⟨h0, by omega⟩, ⟨fun h => ?_, fun h => Int.ediv_eq_zero_of_lt hv.1 h⟩, by omega, Int.mul_nonneg h0 (by omega), by omega⟩
  rw [h, Int.mul_zero] at h3
  omega
theorem rest_nil {l : List Prt} (h : ∀ p ∈ l, 1 ≤ p.loads) {n : Int} (h0 : 0 ≤ n) (h1 : n ≤ loadsM l) : cutR n l = [] ↔ n = loadsM l := by
  have h2 := loads_cutR h h0 h1
  have h3 := cutR_pos h h0
  constructor
  · intro e
    rw [e] at h2
    simp only [loadsM, List.foldl_nil, List.map_nil, List.sum_nil] at h2
    omega
  · intro e
    cases hc : cutR n l with
    | nil => rfl
    | cons p t =>
      exfalso
      rw [hc] at h2 h3
      have h4 := h3 p (by simp)
      have h5 := loads_pos (l := t) (fun q hq => h3 q (by simp [hq]))
      have h6 : loadsM (p :: t) = p.loads + loadsM t := by
        simp [loadsM]
      omega
def OffUpTo (n : Nat) (a : Option Addr) (S T : Sto) : Prop := ∀ B, B < n → Off B S → a.map (·.block) ≠ some B → Off B T
def OffTo (n : Nat) (S T : Sto) : Prop := ∀ B, B < n → Off B S → Off B T
theorem withH_len (hs : List Hep) (i : Nat) (l : List Prt) : (withH hs i l).length ≤ hs.length := by
  unfold withH
  split
  · split
    · exact List.length_eraseIdx_le ..
    · simp
  · omega

set_option maxRecDepth 100000 in
set_option maxHeartbeats 32000000 in
theorem refBound_any (base : Nat) (F : Frm) (S : Sto) (a : Chr) (i : Nat) (x : Hep) (w : World) (hS : Rst base w S) (hbase : base ≤ w.heap.size) (hE : storeE F S = 0) (hfit : S.fit) (hi : idxH S.heaps a.name = (i : Int)) (hx : S.heaps[i]? = some x) (hno : a.other.size ≤ maxLen) :
    Calls Tryz.prog 50 #[.agg #[.slice F.pa F.ps.length F.pc, .int .i64 F.dry], .agg #[.int .i64 S.year, .slice S.la S.last.length S.lc, .slice S.ga S.given.length S.gc, .slice S.ha S.heaps.length S.hc, .slice S.ua S.used.length S.uc, .slice S.wa S.waste.length S.wc], .int .i64 (i : Int), .agg #[.int .i64 a.kind, .int .i64 a.plot, .int .i64 a.loads, .string a.name, .string a.other, .int .i64 a.days, .int .i64 a.per, .int .i64 a.rlo, .int .i64 a.rhi]] w (ChMade base S (bindD F S a) w) := by
  have HS := Lib.hid hS
  have HBASE := Lib.hid hbase
  have HNO := Lib.hid hno
  have HI := Lib.hid hi
  have HX := Lib.hid hx
  have HXH := Lib.hid (hepAt_of hi hx)
  have HXM := Lib.hid (List.mem_of_getElem? hx)
  have HXO := Lib.hid (heap_ok hE hfit (List.mem_of_getElem? hx))
  have HIL := Lib.hid (List.getElem?_eq_some_iff.1 hx).1
  have HH16 := Lib.hid (show (S.heaps.length : Int) ≤ 16 by
    obtain ⟨_, h2⟩ := storeE_zero hE
    simp only [mayB, heapsB, Bool.and_eq_true, decide_eq_true_eq] at h2
    have := h2.2.1.1
    omega)
  have HPP := Lib.hid (hS.parts x (List.mem_of_getElem? hx)).1
  clear hS hbase hE hfit hi hx hno
  go_enter Tryz.func50, Tryz.ntmps50
  go_upto_region 1 with fail
  generalize hw1 : ((((w.alloc (.cells #[.slice F.pa F.ps.length F.pc, .int .i64 F.dry] 24)).alloc (.cells #[.int .i64 S.year, .slice S.la S.last.length S.lc, .slice S.ga S.given.length S.gc, .slice S.ha S.heaps.length S.hc, .slice S.ua S.used.length S.uc, .slice S.wa S.waste.length S.wc] 29)).alloc (.cells #[.int .i64 a.kind, .int .i64 a.plot, .int .i64 a.loads, .string a.name, .string a.other, .int .i64 a.days, .int .i64 a.per, .int .i64 a.rlo, .int .i64 a.rhi] 34)).alloc (.cells #[.int .i64 0, .slice none 0 0, .slice none 0 0, .slice none 0 0, .slice none 0 0, .slice none 0 0] 29)) = w1
  obtain ⟨k1, k2, k3, k4, hb1⟩ := four_boxes w F S a.kind a.plot a.loads a.name a.other a.days a.per a.rlo a.rhi _ _ _ w1 hw1.symm
  clear hw1
  have HB1 := Lib.hid (show Turn (Hot S) w w1 from Turn.of_below hb1)
  have HSZ1 := Lib.hid (Nat.le_trans HBASE.out hb1.size)
  have KF1 := Lib.hid k1
  have KS1 := Lib.hid k2
  have KA1 := Lib.hid k3
  have KR1 := Lib.hid k4
  have HS1 := Lib.hid (HS.out.below hb1)
  have HSZR := Lib.hid (show w.heap.size + 1 + 1 + 1 < w1.heap.size from k4.lt)
  clear k1 k2 k3 k4 hb1
  obtain ⟨g, hg, hgb, hcap, hcx, hcs, _⟩ := HS1.out.heapAt HX.out
  have HG := Lib.hid hg
  have v0 : w1.cell? ⟨g, i * 7, none⟩ = some (.string x.name) := hcs 0 _ rfl
  have v1 : w1.cell? ⟨g, i * 7 + 1, none⟩ = some (.int .i64 x.crop) := hcs 1 _ rfl
  have v2 : w1.cell? ⟨g, i * 7 + 2, none⟩ = some (.int .i64 x.stage) := hcs 2 _ rfl
  have v3 : w1.cell? ⟨g, i * 7 + 3, none⟩ = some (.slice x.pa x.parts.length x.pc) := hcs 3 _ rfl
  have v4 : w1.cell? ⟨g, i * 7 + 4, none⟩ = some (.int .i64 x.per) := hcs 4 _ rfl
  have v5 : w1.cell? ⟨g, i * 7 + 5, none⟩ = some (.int .i64 x.wlo) := hcs 5 _ rfl
  have v6 : w1.cell? ⟨g, i * 7 + 6, none⟩ = some (.int .i64 x.whi) := hcs 6 _ rfl
  have hi0 : (0 : Int) ≤ (i : Int) := Int.natCast_nonneg _
  have hi1 : (i : Int) < (S.heaps.length : Int) := by have := HIL.out; omega
  have lg := hgb.2
  obtain ⟨f0, f1⟩ := frm_cells KF1.out
  have fl := KF1.out.lt
  obtain ⟨d0, d1, d2, d3, d4, d5⟩ := sto_cells (S := S) KS1.out
  have dl := KS1.out.lt
  obtain ⟨c0, c1, c2, c3, c4, c5, c6, c7, c8⟩ := chr_cells KA1.out
  have cl := KA1.out.lt
  rw [hg] at d3
  have kX := Blk.new w1 53 #[.string x.name, .int .i64 x.crop, .int .i64 x.stage, .slice x.pa x.parts.length x.pc, .int .i64 x.per, .int .i64 x.wlo, .int .i64 x.whi]
  have hb2 : Below w1.heap.size w1 (w1.alloc (.cells #[.string x.name, .int .i64 x.crop, .int .i64 x.stage, .slice x.pa x.parts.length x.pc, .int .i64 x.per, .int .i64 x.wlo, .int .i64 x.whi] 53)) := (Below.refl _ w1).alloc (Nat.le_refl _) _
  clear hg hcs hgb
  go_upto_region 2 with fail
  clear v0 v1 v2 v3 v4 v5 v6 hi0 hi1 lg hcap hcx
  clear f0 f1 fl d0 d1 d2 d3 d4 d5 dl c0 c1 c2 c3 c4 c5 c6 c7 c8 cl
  have KF2 := Lib.hid (KF1.out.belowS hb2)
  have KS2 := Lib.hid (KS1.out.belowS hb2)
  have KA2 := Lib.hid (KA1.out.belowS hb2)
  have KR2 := Lib.hid (KR1.out.belowS hb2)
  have HB2 := Lib.hid (HB1.out.trans (Turn.of_below hb2))
  have HSZ2 := Lib.hid (Nat.le_trans HSZ1.out hb2.size)
  have HS2 := Lib.hid (HS1.out.below hb2)
  generalize w1.alloc (.cells #[.string x.name, .int .i64 x.crop, .int .i64 x.stage, .slice x.pa x.parts.length x.pc, .int .i64 x.per, .int .i64 x.wlo, .int .i64 x.whi] 53) = w2 at *
  obtain ⟨bh, hbh⟩ : ∃ bh, bh = w1.heap.size := ⟨_, rfl⟩
  rw [← hbh] at kX HSZR ⊢
  clear hbh hb2 KF1 KS1 KA1 KR1
  have KH2 := Lib.hid kX
  clear kX
  obtain ⟨f0, f1⟩ := frm_cells KF2.out
  have fl := KF2.out.lt
  obtain ⟨d0, d1, d2, d3, d4, d5⟩ := sto_cells (S := S) KS2.out
  have dl := KS2.out.lt
  obtain ⟨c0, c1, c2, c3, c4, c5, c6, c7, c8⟩ := chr_cells KA2.out
  have cl := KA2.out.lt
  obtain ⟨x0, x1, x2, x3, x4, x5, x6⟩ := hepB_cells KH2.out
  have xl := KH2.out.lt
  go_wp2_with fail
  refine (refName_any a.other _ HNO.out).mono ?_
  rintro e w3 ⟨rfl, rfl⟩
  obtain ⟨b1, hb1⟩ : ∃ b1, nameB a.other = b1 := ⟨_, rfl⟩
  have H1 := Lib.hid hb1
  rw [hb1]
  clear hb1
  cases b1 with
  | false =>
    have HV := Lib.hid (show (bindD F S a).1 = 5 by unfold bindD; rw [if_neg (by rw [HI.out]; omega), if_pos H1.out])
    obtain ⟨rr0, rr1, rr2, rr3, rr4, rr5⟩ := zero_cells KR2.out
    have rrl := KR2.out.lt
    have rrz0 := KR2.out.frozen 0
    have rrz1 := KR2.out.frozen 1
    have rrz2 := KR2.out.frozen 2
    have rrz3 := KR2.out.frozen 3
    have rrz4 := KR2.out.frozen 4
    have rrz5 := KR2.out.frozen 5
    go_wp2_with fail
    refine put_end S KR2.out (Φ := bodyPost _ _ _ _ _) (fun wf ht kf => ?_)
    obtain ⟨g0, g1, g2, g3, g4, g5⟩ := sto_cells (S := S) kf
    exact bodyPost_ret (v := .tuple #[.agg #[.int .i64 S.year, .slice S.la S.last.length S.lc, .slice S.ga S.given.length S.gc, .slice S.ha S.heaps.length S.hc, .slice S.ua S.used.length S.uc, .slice S.wa S.waste.length S.wc], .int .i64 5]) (by simp [results, Tryz.results50, go_sem, g0, g1, g2, g3, g4, g5]) rfl (ChMade.err S HV.out (by decide) (HB2.out.far ht (fun k e => by rw [show k = w.heap.size + 1 + 1 + 1 from e]; omega)))
  | true =>
  go_wp2_with fail
  refine (refAt_any S a.other _ (HS2.out.store.heaps)).mono ?_
  rintro e w3 ⟨rfl, hb⟩
  clear f0 f1 fl d0 d1 d2 d3 d4 d5 dl c0 c1 c2 c3 c4 c5 c6 c7 c8 cl x0 x1 x2 x3 x4 x5 x6 xl
  have KF3 := Lib.hid (KF2.out.belowS hb)
  have KS3 := Lib.hid (KS2.out.belowS hb)
  have KA3 := Lib.hid (KA2.out.belowS hb)
  have KR3 := Lib.hid (KR2.out.belowS hb)
  have KH3 := Lib.hid (KH2.out.belowS hb)
  have HB3 := Lib.hid (HB2.out.trans (Turn.of_below hb))
  have HSZ3 := Lib.hid (Nat.le_trans HSZ2.out hb.size)
  have HS3 := Lib.hid (HS2.out.below hb)
  clear hb KF2 KS2 KA2 KR2 KH2
  obtain ⟨ix, hix⟩ : ∃ ix, idxH S.heaps a.other = ix := ⟨_, rfl⟩
  have HIX := Lib.hid hix
  rw [hix]
  clear hix
  obtain ⟨f0, f1⟩ := frm_cells KF3.out
  have fl := KF3.out.lt
  obtain ⟨d0, d1, d2, d3, d4, d5⟩ := sto_cells (S := S) KS3.out
  have dl := KS3.out.lt
  obtain ⟨c0, c1, c2, c3, c4, c5, c6, c7, c8⟩ := chr_cells KA3.out
  have cl := KA3.out.lt
  obtain ⟨x0, x1, x2, x3, x4, x5, x6⟩ := hepB_cells KH3.out
  have xl := KH3.out.lt
  by_cases h3 : 0 ≤ ix
  · have HV := Lib.hid (show (bindD F S a).1 = 6 by unfold bindD; rw [if_neg (by rw [HI.out]; omega), if_neg (by rw [H1.out]; decide), if_pos (by rw [HIX.out]; exact h3)])
    obtain ⟨rr0, rr1, rr2, rr3, rr4, rr5⟩ := zero_cells KR3.out
    have rrl := KR3.out.lt
    have rrz0 := KR3.out.frozen 0
    have rrz1 := KR3.out.frozen 1
    have rrz2 := KR3.out.frozen 2
    have rrz3 := KR3.out.frozen 3
    have rrz4 := KR3.out.frozen 4
    have rrz5 := KR3.out.frozen 5
    go_wp2_with fail
    refine put_end S KR3.out (Φ := bodyPost _ _ _ _ _) (fun wf ht kf => ?_)
    obtain ⟨g0, g1, g2, g3, g4, g5⟩ := sto_cells (S := S) kf
    exact bodyPost_ret (v := .tuple #[.agg #[.int .i64 S.year, .slice S.la S.last.length S.lc, .slice S.ga S.given.length S.gc, .slice S.ha S.heaps.length S.hc, .slice S.ua S.used.length S.uc, .slice S.wa S.waste.length S.wc], .int .i64 6]) (by simp [results, Tryz.results50, go_sem, g0, g1, g2, g3, g4, g5]) rfl (ChMade.err S HV.out (by decide) (HB3.out.far ht (fun k e => by rw [show k = w.heap.size + 1 + 1 + 1 from e]; omega)))
  have H2 := Lib.hid (show ¬ 0 ≤ idxH S.heaps a.other by rw [HIX.out]; exact h3)
  obtain ⟨b5, hb5⟩ : ∃ b5, decide (x.stage = 2 ∧ x.whi ≤ F.dry) = b5 := ⟨_, rfl⟩
  have H5 := Lib.hid hb5
  clear hb5
  go_upto_region 6 with fail
  clear h3
  go_cut [40] from 30 to 40 (fun s40 wx => s40 = .bool (!b5) ∧ wx = w3)
  case first =>
    by_cases h1 : x.stage = 2
    rotate_left
    · have q1 : (x.stage == 2) = false := by simp [h1]
      have q2 : (x.stage != 2) = true := by simp [h1]
      have HN1 := Lib.hid (show ¬ (x.stage = 2 ∧ x.whi ≤ F.dry) from fun h => h1 h.1)
      clear h1
      go_wp2_with fail
      go_meet
      exact ⟨by rw [← H5.out, decide_eq_false HN1.out] <;> first | rfl | simp [h2] | (simp; omega), rfl⟩
    have q1 : (x.stage == 2) = true := by simp [h1]
    have q2 : (x.stage != 2) = false := by simp [h1]
    by_cases h2 : F.dry < x.whi
    · have q3 : decide (F.dry < x.whi) = true := decide_eq_true h2
      have HN1 := Lib.hid (show ¬ (x.stage = 2 ∧ x.whi ≤ F.dry) from fun h => by omega)
      clear h1
      go_wp2_with fail
      go_meet
      exact ⟨by rw [← H5.out, decide_eq_false HN1.out] <;> first | rfl | simp [h2] | (simp; omega), rfl⟩
    · have q3 : decide (F.dry < x.whi) = false := decide_eq_false h2
      have HN1 := Lib.hid (show x.stage = 2 ∧ x.whi ≤ F.dry from ⟨h1, by omega⟩)
      clear h1
      go_wp2_with fail
      go_meet
      exact ⟨by rw [← H5.out, decide_eq_true HN1.out] <;> first | rfl | simp [h2] | (simp; omega), rfl⟩
  obtain ⟨rfl, hw4⟩ := hcut
  subst hw4
  obtain ⟨w3, rfl⟩ : ∃ w3 : World, w3 = wc := ⟨_, rfl⟩
  cases b5 with
  | false =>
    have HV := Lib.hid (show (bindD F S a).1 = 8 by
      have h5 := of_decide_eq_false H5.out
      unfold bindD; rw [if_neg (by rw [HI.out]; omega), if_neg (by rw [H1.out]; decide), if_neg (by have := H2.out; omega), if_pos (by rw [HXH.out]; exact h5)])
    obtain ⟨rr0, rr1, rr2, rr3, rr4, rr5⟩ := zero_cells KR3.out
    have rrl := KR3.out.lt
    have rrz0 := KR3.out.frozen 0
    have rrz1 := KR3.out.frozen 1
    have rrz2 := KR3.out.frozen 2
    have rrz3 := KR3.out.frozen 3
    have rrz4 := KR3.out.frozen 4
    have rrz5 := KR3.out.frozen 5
    go_wp2_with fail
    refine put_end S KR3.out (Φ := bodyPost _ _ _ _ _) (fun wf ht kf => ?_)
    obtain ⟨g0, g1, g2, g3, g4, g5⟩ := sto_cells (S := S) kf
    exact bodyPost_ret (v := .tuple #[.agg #[.int .i64 S.year, .slice S.la S.last.length S.lc, .slice S.ga S.given.length S.gc, .slice S.ha S.heaps.length S.hc, .slice S.ua S.used.length S.uc, .slice S.wa S.waste.length S.wc], .int .i64 8]) (by simp [results, Tryz.results50, go_sem, g0, g1, g2, g3, g4, g5]) rfl (ChMade.err S HV.out (by decide) (HB3.out.far ht (fun k e => by rw [show k = w.heap.size + 1 + 1 + 1 from e]; omega)))
  | true =>
  have H3 := Lib.hid (of_decide_eq_true H5.out)
  go_wp2_with fail
  refine (refIn_any _ _ _ _).mono ?_
  rintro e w4 ⟨rfl, rfl⟩
  obtain ⟨b6, hb6⟩ : ∃ b6, isFromB a.per 1 100 = b6 := ⟨_, rfl⟩
  have H4 := Lib.hid hb6
  rw [hb6]
  clear hb6
  cases b6 with
  | false =>
    have HV := Lib.hid (show (bindD F S a).1 = 1 by unfold bindD; rw [if_neg (by rw [HI.out]; omega), if_neg (by rw [H1.out]; decide), if_neg (by have := H2.out; omega), if_neg (not_not_intro (by rw [HXH.out]; exact H3.out)), if_pos H4.out])
    obtain ⟨rr0, rr1, rr2, rr3, rr4, rr5⟩ := zero_cells KR3.out
    have rrl := KR3.out.lt
    have rrz0 := KR3.out.frozen 0
    have rrz1 := KR3.out.frozen 1
    have rrz2 := KR3.out.frozen 2
    have rrz3 := KR3.out.frozen 3
    have rrz4 := KR3.out.frozen 4
    have rrz5 := KR3.out.frozen 5
    go_wp2_with fail
    refine put_end S KR3.out (Φ := bodyPost _ _ _ _ _) (fun wf ht kf => ?_)
    obtain ⟨g0, g1, g2, g3, g4, g5⟩ := sto_cells (S := S) kf
    exact bodyPost_ret (v := .tuple #[.agg #[.int .i64 S.year, .slice S.la S.last.length S.lc, .slice S.ga S.given.length S.gc, .slice S.ha S.heaps.length S.hc, .slice S.ua S.used.length S.uc, .slice S.wa S.waste.length S.wc], .int .i64 1]) (by simp [results, Tryz.results50, go_sem, g0, g1, g2, g3, g4, g5]) rfl (ChMade.err S HV.out (by decide) (HB3.out.far ht (fun k e => by rw [show k = w.heap.size + 1 + 1 + 1 from e]; omega)))
  | true =>
  have HPER := Lib.hid (isFromB_iff.1 H4.out)
  have HDF := Lib.hid (div_facts HXO.out.2.2.2.1 HPER.out)
  have hper := HPER.out
  have hp0 : ¬ a.per = 0 := by omega
  have hp0' : (a.per == 0) = false := by simp [hp0]
  have hlo : ∀ n, Calls Tryz.prog 46 #[.slice x.pa x.parts.length x.pc] (w3.drewN n) fun e w' => e = .returned (.int .i64 (loadsM x.parts)) ∧ w' = w3.drewN n := fun n => (refLoads_any F.ps.length x.pa x.pc x.parts _ ((HS3.out.parts x HXM.out).1.1.belowS (below_drewN' _ _ _)) HXO.out.1 HXO.out.2.2.1).mono fun _ _ ⟨a, b⟩ => ⟨a, b.symm⟩
  have HLO := Lib.hid hlo
  clear hlo
  obtain ⟨v, hv⟩ : ∃ v, loadsM x.parts = v := ⟨_, rfl⟩
  have HV0 := Lib.hid hv
  rw [hv] at HLO HDF
  obtain ⟨q, hq⟩ : ∃ q, v / a.per = q := ⟨_, rfl⟩
  have HQ := Lib.hid hq
  rw [hq] at HDF
  have htd : v.tdiv a.per = q := HDF.out.1
  have hwq : IntKind.i64.wrap q = q := by have := HDF.out.2.1; rw [IntKind.wrap_i64]; omega
  clear hv hq hper
  go_upto_region 10 with fail
  go_quiet (first | (go_at_call 46; refine Calls.quiet_of_same (HLO.out _)))
  generalize hw5 : w3.drewN _ = w5
  have hb5 : Below w3.heap.size w3 w5 := by rw [← hw5]; exact below_drewN' _ _ _
  clear hw5 htd hwq hp0 hp0'
  clear f0 f1 fl d0 d1 d2 d3 d4 d5 dl c0 c1 c2 c3 c4 c5 c6 c7 c8 cl x0 x1 x2 x3 x4 x5 x6 xl
  have KF5 := Lib.hid (KF3.out.belowS hb5)
  have KS5 := Lib.hid (KS3.out.belowS hb5)
  have KA5 := Lib.hid (KA3.out.belowS hb5)
  have KR5 := Lib.hid (KR3.out.belowS hb5)
  have KH5 := Lib.hid (KH3.out.belowS hb5)
  have HB5 := Lib.hid (HB3.out.trans (Turn.of_below hb5))
  have HSZ5 := Lib.hid (Nat.le_trans HSZ3.out hb5.size)
  have HS5 := Lib.hid (HS3.out.below hb5)
  clear hb5 KF3 KS3 KA3 KR3 KH3 HS3
  obtain ⟨f0, f1⟩ := frm_cells KF5.out
  have fl := KF5.out.lt
  obtain ⟨d0, d1, d2, d3, d4, d5⟩ := sto_cells (S := S) KS5.out
  have dl := KS5.out.lt
  obtain ⟨c0, c1, c2, c3, c4, c5, c6, c7, c8⟩ := chr_cells KA5.out
  have cl := KA5.out.lt
  obtain ⟨x0, x1, x2, x3, x4, x5, x6⟩ := hepB_cells KH5.out
  have xl := KH5.out.lt
  by_cases hq0 : q = 0
  · have hqb : (q == 0) = true := by simp [hq0]
    have HV := Lib.hid (show (bindD F S a).1 = 9 by
      have h9 := HDF.out.2.2.1.1 hq0
      unfold bindD; rw [if_neg (by rw [HI.out]; omega), if_neg (by rw [H1.out]; decide), if_neg (by have := H2.out; omega), if_neg (not_not_intro (by rw [HXH.out]; exact H3.out)), if_neg (by rw [H4.out]; decide), if_pos (by rw [HXH.out, HV0.out]; exact h9)])
    clear hq0
    obtain ⟨rr0, rr1, rr2, rr3, rr4, rr5⟩ := zero_cells KR5.out
    have rrl := KR5.out.lt
    have rrz0 := KR5.out.frozen 0
    have rrz1 := KR5.out.frozen 1
    have rrz2 := KR5.out.frozen 2
    have rrz3 := KR5.out.frozen 3
    have rrz4 := KR5.out.frozen 4
    have rrz5 := KR5.out.frozen 5
    go_wp2_with fail
    refine put_end S KR5.out (Φ := bodyPost _ _ _ _ _) (fun wf ht kf => ?_)
    obtain ⟨g0, g1, g2, g3, g4, g5⟩ := sto_cells (S := S) kf
    exact bodyPost_ret (v := .tuple #[.agg #[.int .i64 S.year, .slice S.la S.last.length S.lc, .slice S.ga S.given.length S.gc, .slice S.ha S.heaps.length S.hc, .slice S.ua S.used.length S.uc, .slice S.wa S.waste.length S.wc], .int .i64 9]) (by simp [results, Tryz.results50, go_sem, g0, g1, g2, g3, g4, g5]) rfl (ChMade.err S HV.out (by decide) (HB5.out.far ht (fun k e => by rw [show k = w.heap.size + 1 + 1 + 1 from e]; omega)))
  have hqb : (q == 0) = false := by simp [hq0]
  have HQ0 := Lib.hid (show ¬ v < a.per from fun h => hq0 (HDF.out.2.2.1.2 h))
  clear hq0
  have hwm : IntKind.i64.wrap (q * a.per) = q * a.per := by have := HDF.out.2.2.2.2; have := HXO.out.2.2.2.1; rw [HV0.out] at this; rw [IntKind.wrap_i64]; omega
  go_wp2_with fail
  refine (refCutF_any x.pa x.pc x.parts (q * a.per) _ ((HS5.out.parts x HXM.out).1.1) (fun p hp => (HXO.out.1 p hp).2) HXO.out.2.2.1 HDF.out.2.2.2.2.1 (by have := HDF.out.2.2.2.2; have := HXO.out.2.2.2.1; rw [HV0.out] at this; omega)).mono ?_
  rintro e w6 ⟨⟨a1, n1, a2, n2, rfl, hG, hR⟩, hb⟩
  clear f0 f1 fl d0 d1 d2 d3 d4 d5 dl c0 c1 c2 c3 c4 c5 c6 c7 c8 cl x0 x1 x2 x3 x4 x5 x6 xl
  clear hwm hqb
  have KF6 := Lib.hid (KF5.out.belowS hb)
  have KS6 := Lib.hid (KS5.out.belowS hb)
  have KA6 := Lib.hid (KA5.out.belowS hb)
  have KR6 := Lib.hid (KR5.out.belowS hb)
  have KH6 := Lib.hid (KH5.out.belowS hb)
  have HB6 := Lib.hid (HB5.out.trans (Turn.of_below hb))
  have HSZ6 := Lib.hid (Nat.le_trans HSZ5.out hb.size)
  have HS6 := Lib.hid (HS5.out.below hb)
  have HGN := Lib.hid (show NewP w5 w6 a1 n1 (cutT (q * a.per) x.parts) from hG)
  have HRN := Lib.hid (show NewP w5 w6 a2 n2 (cutR (q * a.per) x.parts) from hR)
  have HLE56 := Lib.hid hb.size
  have HC1 := Lib.hid (show Cool base w6 S a1 from HS5.out.cool HSZ5.out hG.2)
  have HC2 := Lib.hid (show Cool base w6 S a2 from HS5.out.cool HSZ5.out hR.2)
  have HSZ56 := Lib.hid (show w.heap.size + 1 + 1 + 1 < w5.heap.size from KR5.out.lt)
  have HRE := Lib.hid (rest_nil (l := x.parts) (fun p hp => (HXO.out.1 p hp).2.1) HDF.out.2.2.2.2.1 (by rw [HV0.out]; exact HDF.out.2.2.2.2.2))
  have HGL := Lib.hid (cutT_len x.parts (q * a.per))
  have HRL := Lib.hid (cutR_len x.parts (q * a.per))
  have HWM := Lib.hid (with_move S.heaps i x (q * a.per) HX.out)
  obtain ⟨G, hGG⟩ : ∃ G, cutT (q * a.per) x.parts = G := ⟨_, rfl⟩
  obtain ⟨R, hRR⟩ : ∃ R, cutR (q * a.per) x.parts = R := ⟨_, rfl⟩
  rw [hGG] at HGN HGL ⊢
  rw [hRR] at HRN HRE HRL HWM ⊢
  have HGG := Lib.hid hGG
  clear hb hG hR hGG hRR KF5 KS5 KA5 KR5 KH5 HS5
  obtain ⟨f0, f1⟩ := frm_cells KF6.out
  have fl := KF6.out.lt
  obtain ⟨d0, d1, d2, d3, d4, d5⟩ := sto_cells (S := S) KS6.out
  have dl := KS6.out.lt
  obtain ⟨c0, c1, c2, c3, c4, c5, c6, c7, c8⟩ := chr_cells KA6.out
  have cl := KA6.out.lt
  obtain ⟨x0, x1, x2, x3, x4, x5, x6⟩ := hepB_cells KH6.out
  have xl := KH6.out.lt
  obtain ⟨b7, hb7⟩ : ∃ b7, decide (R = [] ∨ (S.heaps.length : Int) < 16) = b7 := ⟨_, rfl⟩
  have H7 := Lib.hid hb7
  clear hb7
  go_upto_region 14 with fail
  go_cut [74] from 66 to 74 (fun s74 wx => s74 = .bool (!b7) ∧ wx = w6)
  case first =>
    by_cases h1 : R = []
    · have HN1 := Lib.hid (show R = [] ∨ (S.heaps.length : Int) < 16 from .inl h1)
      have hpos : ¬ 0 < R.length := by rw [h1]; simp
      clear h1
      go_wp2_with fail
      go_meet
      exact ⟨by rw [← H7.out, decide_eq_true HN1.out] <;> first | rfl | simp [h2] | (simp; omega), rfl⟩
    have hpos : 0 < R.length := List.length_pos_iff.2 h1
    by_cases h2 : (S.heaps.length : Int) = 16
    · have q3 : ((S.heaps.length : Int) == 16) = true := by simp [h2]
      have HN1 := Lib.hid (show ¬ (R = [] ∨ (S.heaps.length : Int) < 16) from fun h => by
        rcases h with h | h
        · exact h1 h
        · omega)
      clear h1 h2
      go_wp2_with fail
      go_meet
      exact ⟨by rw [← H7.out, decide_eq_false HN1.out] <;> first | rfl | simp [h2] | (simp; omega), rfl⟩
    · have q3 : ((S.heaps.length : Int) == 16) = false := by simp [h2]
      have HN1 := Lib.hid (show R = [] ∨ (S.heaps.length : Int) < 16 from .inr (by have := HH16.out; omega))
      clear h1 h2
      go_wp2_with fail
      go_meet
      exact ⟨by rw [← H7.out, decide_eq_true HN1.out] <;> first | rfl | simp [h2] | (simp; omega), rfl⟩
  obtain ⟨rfl, hw4⟩ := hcut
  subst hw4
  obtain ⟨w6, rfl⟩ : ∃ w6 : World, w6 = wc := ⟨_, rfl⟩
  have HMOD := Lib.hid (show R = [] ↔ v % a.per = 0 by
    have h1 := HRE.out
    have h2 := HDF.out.2.2.2.1
    rw [HV0.out] at h1
    rw [h1, h2]
    omega)
  cases b7 with
  | false =>
    have HV := Lib.hid (show (bindD F S a).1 = 3 by
      have h7 := of_decide_eq_false H7.out
      rw [HMOD.out] at h7
      unfold bindD; rw [if_neg (by rw [HI.out]; omega), if_neg (by rw [H1.out]; decide), if_neg (by have := H2.out; omega), if_neg (not_not_intro (by rw [HXH.out]; exact H3.out)), if_neg (by rw [H4.out]; decide), if_neg (by rw [HXH.out, HV0.out]; have := HQ0.out; omega), if_pos (by rw [HXH.out, HV0.out]; exact h7)])
    obtain ⟨rr0, rr1, rr2, rr3, rr4, rr5⟩ := zero_cells KR6.out
    have rrl := KR6.out.lt
    have rrz0 := KR6.out.frozen 0
    have rrz1 := KR6.out.frozen 1
    have rrz2 := KR6.out.frozen 2
    have rrz3 := KR6.out.frozen 3
    have rrz4 := KR6.out.frozen 4
    have rrz5 := KR6.out.frozen 5
    go_wp2_with fail
    refine put_end S KR6.out (Φ := bodyPost _ _ _ _ _) (fun wf ht kf => ?_)
    obtain ⟨g0, g1, g2, g3, g4, g5⟩ := sto_cells (S := S) kf
    exact bodyPost_ret (v := .tuple #[.agg #[.int .i64 S.year, .slice S.la S.last.length S.lc, .slice S.ga S.given.length S.gc, .slice S.ha S.heaps.length S.hc, .slice S.ua S.used.length S.uc, .slice S.wa S.waste.length S.wc], .int .i64 3]) (by simp [results, Tryz.results50, go_sem, g0, g1, g2, g3, g4, g5]) rfl (ChMade.err S HV.out (by decide) (HB6.out.far ht (fun k e => by rw [show k = w.heap.size + 1 + 1 + 1 from e]; omega)))
  | true =>
  have H6 := Lib.hid (of_decide_eq_true H7.out)
  go_wp2_with fail
  refine (refWith_any base S i x a2 n2 R _ HS6.out HSZ6.out HX.out HRN.out.1 HC2.out (by have := HRL.out; have := HXO.out.2.2.1; omega) (by have := HH16.out; omega)).mono ?_
  rintro e w7a ⟨⟨T, rfl, hT, hsm, hoff, hla, hga, hha⟩, hb⟩
  clear f0 f1 fl d0 d1 d2 d3 d4 d5 dl c0 c1 c2 c3 c4 c5 c6 c7 c8 cl x0 x1 x2 x3 x4 x5 x6 xl
  have hbs : Below w6.heap.size w6 w6 := Below.refl _ _
  have HSZ67 := Lib.hid (show w.heap.size + 1 + 1 + 1 < w6.heap.size from KR6.out.lt)
  have HBW := Lib.hid hb
  have HOFF := Lib.hid (show OffUpTo w6.heap.size a2 S T from hoff)
  have HSM := Lib.hid hsm
  have HTA := Lib.hid hT
  have HLG := Lib.hid (And.intro hla hga)
  have HHA := Lib.hid hha
  clear hT hsm hoff hla hga hha hbs
  have HFARM := Lib.hid hb.size
  have KF7 := Lib.hid (hb.blk KF6.out (fun e => by have := (own_geq HS.out.heaps (k := w.heap.size) e).2; omega))
  have KA7 := Lib.hid (hb.blk KA6.out (fun e => by have := (own_geq HS.out.heaps (k := w.heap.size + 1 + 1) e).2; omega))
  have KR7 := Lib.hid (hb.blk KR6.out (fun e => by have := (own_geq HS.out.heaps (k := w.heap.size + 1 + 1 + 1) e).2; omega))
  have KH7 := Lib.hid (hb.blk KH6.out (fun e => by have := (own_geq HS.out.heaps (k := bh) e).2; have := HSZR.out; omega))
  have KS7a := Lib.hid (hb.blk KS6.out (fun e => by have := (own_geq HS.out.heaps (k := w.heap.size + 1) e).2; omega))
  have HB7a := Lib.hid (HB6.out.trans (hb.mono (fun k _ e => .inr (.inr e))))
  have HSZ7a := Lib.hid (Nat.le_trans HSZ6.out hb.size)
  have HG7 := Lib.hid (HGN.out.1.turn hb (fun k e e2 => (HC1.out k e).2.2.2 e2))
  clear hb KF6 KS6 KA6 KR6 KH6
  unfold stoV
  obtain ⟨d0, d1, d2, d3, d4, d5⟩ := sto_cells (S := S) KS7a.out
  have dl := KS7a.out.lt
  have dz0 := KS7a.out.frozen 0
  have dz1 := KS7a.out.frozen 1
  have dz2 := KS7a.out.frozen 2
  have dz3 := KS7a.out.frozen 3
  have dz4 := KS7a.out.frozen 4
  have dz5 := KS7a.out.frozen 5
  go_upto_region 17 with fail
  have kf : Blk ((((((w7a.setCell ⟨w.heap.size + 1, 0, none⟩ (.int .i64 T.year)).setCell ⟨w.heap.size + 1, 1, none⟩ (.slice T.la T.last.length T.lc)).setCell ⟨w.heap.size + 1, 2, none⟩ (.slice T.ga T.given.length T.gc)).setCell ⟨w.heap.size + 1, 3, none⟩ (.slice T.ha T.heaps.length T.hc)).setCell ⟨w.heap.size + 1, 4, none⟩ (.slice T.ua T.used.length T.uc)).setCell ⟨w.heap.size + 1, 5, none⟩ (.slice T.wa T.waste.length T.wc)) (w.heap.size + 1) #[.int .i64 T.year, .slice T.la T.last.length T.lc, .slice T.ga T.given.length T.gc, .slice T.ha T.heaps.length T.hc, .slice T.ua T.used.length T.uc, .slice T.wa T.waste.length T.wc] 29 := ((((((KS7a.out.set 0 (.int .i64 T.year)).set 1 (.slice T.la T.last.length T.lc)).set 2 (.slice T.ga T.given.length T.gc)).set 3 (.slice T.ha T.heaps.length T.hc)).set 4 (.slice T.ua T.used.length T.uc)).set 5 (.slice T.wa T.waste.length T.wc))
  have ht : Turn (fun k => k = w.heap.size + 1) w7a ((((((w7a.setCell ⟨w.heap.size + 1, 0, none⟩ (.int .i64 T.year)).setCell ⟨w.heap.size + 1, 1, none⟩ (.slice T.la T.last.length T.lc)).setCell ⟨w.heap.size + 1, 2, none⟩ (.slice T.ga T.given.length T.gc)).setCell ⟨w.heap.size + 1, 3, none⟩ (.slice T.ha T.heaps.length T.hc)).setCell ⟨w.heap.size + 1, 4, none⟩ (.slice T.ua T.used.length T.uc)).setCell ⟨w.heap.size + 1, 5, none⟩ (.slice T.wa T.waste.length T.wc)) := (((((((Turn.of_below (X := fun k => k = w.heap.size + 1) (Below.refl _ w7a)).setCell (B := w.heap.size + 1) rfl 0 (.int .i64 T.year)).setCell (B := w.heap.size + 1) rfl 1 (.slice T.la T.last.length T.lc)).setCell (B := w.heap.size + 1) rfl 2 (.slice T.ga T.given.length T.gc)).setCell (B := w.heap.size + 1) rfl 3 (.slice T.ha T.heaps.length T.hc)).setCell (B := w.heap.size + 1) rfl 4 (.slice T.ua T.used.length T.uc)).setCell (B := w.heap.size + 1) rfl 5 (.slice T.wa T.waste.length T.wc))
  generalize ((((((w7a.setCell ⟨w.heap.size + 1, 0, none⟩ (.int .i64 T.year)).setCell ⟨w.heap.size + 1, 1, none⟩ (.slice T.la T.last.length T.lc)).setCell ⟨w.heap.size + 1, 2, none⟩ (.slice T.ga T.given.length T.gc)).setCell ⟨w.heap.size + 1, 3, none⟩ (.slice T.ha T.heaps.length T.hc)).setCell ⟨w.heap.size + 1, 4, none⟩ (.slice T.ua T.used.length T.uc)).setCell ⟨w.heap.size + 1, 5, none⟩ (.slice T.wa T.waste.length T.wc)) = w7 at *
  have KF8 := Lib.hid (ht.blk KF7.out (fun e => by have := (show w.heap.size = w.heap.size + 1 from e); omega))
  have KA8 := Lib.hid (ht.blk KA7.out (fun e => by have := (show w.heap.size + 1 + 1 = w.heap.size + 1 from e); omega))
  have KR8 := Lib.hid (ht.blk KR7.out (fun e => by have := (show w.heap.size + 1 + 1 + 1 = w.heap.size + 1 from e); omega))
  have KH8 := Lib.hid (ht.blk KH7.out (fun e => by have := (show bh = w.heap.size + 1 from e); have := HSZR.out; omega))
  have KS8 := Lib.hid kf
  have HB8 := Lib.hid (HB7a.out.far ht (fun k e => by rw [show k = w.heap.size + 1 from e]; omega))
  have HSZ8 := Lib.hid (Nat.le_trans HSZ7a.out ht.size)
  have HT8 := Lib.hid (HTA.out.turnAt ht (HOFF.out _ (by have := HSZ67.out; omega) (HS.out.off (.inl (by omega))) (fun e => by have := HRN.out.2 _ e; have := HSZ56.out; omega)))
  have HG8 := Lib.hid (HG7.out.turn ht (fun k e e2 => by have := HGN.out.2 k e; have := HSZ56.out; have := (show k = w.heap.size + 1 from e2); omega))
  have HCG := Lib.hid (show Cool base w7 T a1 from fun k e => by
    have h1 := HC1.out k e
    have h2 := HFARM.out
    have h3 := ht.size
    refine ⟨⟨h1.1.1, Nat.lt_of_lt_of_le h1.1.2 (Nat.le_trans h2 h3)⟩, ?_, ?_, ?_⟩
    · have h4 := HLG.out.1
      rw [h4]
      exact h1.2.1
    · have h4 := HLG.out.2
      rw [h4]
      exact h1.2.2.1
    · rcases HHA.out with h5 | h5
      · rw [h5]
        exact h1.2.2.2
      · intro e2
        exact absurd (h5 k e2) (Nat.not_le_of_lt h1.1.2))
  have HSZW := Lib.hid (show w.heap.size + 4 ≤ w7.heap.size from by have := HSZ67.out; have := HFARM.out; have := ht.size; omega)
  have HSZW6 := Lib.hid (show w.heap.size + 4 ≤ w6.heap.size from by have := HSZ67.out; omega)
  have HLT := Lib.hid (show T.heaps.length ≤ 16 by
    have h1 := HSM.out.many
    have h2 := withH_len S.heaps i R
    have h3 := HH16.out
    dsimp only at h1
    omega)
  clear d0 d1 d2 d3 d4 d5 dl dz0 dz1 dz2 dz3 dz4 dz5 kf ht KF7 KA7 KR7 KH7 KS7a HTA HG7
  obtain ⟨i3, q0, q1, q2, q3⟩ := info_parts info_heap
  have hbE : Below w7.heap.size w7 (w7.alloc (.cells #[.string a.other, .int .i64 x.crop, .int .i64 3, .slice a1 G.length n1, .int .i64 a.per, .int .i64 x.wlo, .int .i64 x.whi] 53)) := (Below.refl _ w7).alloc (Nat.le_refl _) _
  have HBE := Lib.hid hbE
  have HOE := Lib.hid (own_below HT8.out.heaps hbE)
  have HNE := Lib.hid (show ∀ jj u, ([.string a.other, .int .i64 x.crop, .int .i64 3, .slice a1 G.length n1, .int .i64 a.per, .int .i64 x.wlo, .int .i64 x.whi] : List Value)[jj]? = some u → (w7.alloc (.cells #[.string a.other, .int .i64 x.crop, .int .i64 3, .slice a1 G.length n1, .int .i64 a.per, .int .i64 x.wlo, .int .i64 x.whi] 53)).cell? ((⟨w7.heap.size, 0, none⟩ : Addr).add jj) = some u from World.news_of_block (Blk.new w7 53 #[.string a.other, .int .i64 x.crop, .int .i64 3, .slice a1 G.length n1, .int .i64 a.per, .int .i64 x.wlo, .int .i64 x.whi]))
  have HONE := Lib.hid (show ∀ u ∈ ([.string a.other, .int .i64 x.crop, .int .i64 3, .slice a1 G.length n1, .int .i64 a.per, .int .i64 x.wlo, .int .i64 x.whi] : List Value), u.oneCell' = true by simp [Value.oneCell'])
  have HBS := Lib.hid (show base ≤ (w7.alloc (.cells #[.string a.other, .int .i64 x.crop, .int .i64 3, .slice a1 G.length n1, .int .i64 a.per, .int .i64 x.wlo, .int .i64 x.whi] 53)).heap.size from Nat.le_trans HSZ8.out hbE.size)
  have HOT := Lib.hid (show OffTo (w.heap.size + 4) S T from fun B hB ho => HOFF.out B (by have := HSZ67.out; omega) ho (fun e => by have := HRN.out.2 _ e; have := HSZ56.out; omega))
  clear hbE
  obtain ⟨c0, c1, c2, c3, c4, c5, c6, c7, c8⟩ := chr_cells KA8.out
  have cl := KA8.out.lt
  obtain ⟨x0, x1, x2, x3, x4, x5, x6⟩ := hepB_cells KH8.out
  have xl := KH8.out.lt
  have d3 : w7.cell? ⟨w.heap.size + 1, 3, none⟩ = some (.slice T.ha T.heaps.length T.hc) := KS8.out.cell 3
  have dl := KS8.out.lt
  go_upto_region 18 with (at_builtin; refine wpList_append_lies _ rfl _ _ 26 rfl base 53 i3 (.agg #[.string ⟨#[]⟩, .int .i64 0, .int .i64 0, .slice none 0 0, .int .i64 0, .int .i64 0, .int .i64 0]) 7 80 Tryz.underlying26 q0 q1 q2 q3 rfl (by decide) (.slice T.ha T.heaps.length T.hc) T.heaps.length (T.heaps.flatMap cellsHep) rfl HOE.out ⟨w7.heap.size, 0, none⟩ 1 1 [.string a.other, .int .i64 x.crop, .int .i64 3, .slice a1 G.length n1, .int .i64 a.per, .int .i64 x.wlo, .int .i64 x.whi] rfl rfl HNE.out HONE.out (by decide) (by have := HLT.out; unfold maxLen; omega) (by have := HLT.out; omega) HBS.out _ rfl ?_; intro g cap w10 howo hgrow hat hlto; have HOO := Lib.hid howo; have HGO := Lib.hid hgrow; have HAT := Lib.hid hat; have KX := Lib.hid ((Turn.of_grown hgrow).blk (KS8.out.belowS HBE.out) (fun e => by rw [rowOf_own'] at e; exact ((show OffTo (w.heap.size + 4) S T from HOT.out) _ (by omega) (HS.out.off (.inl (by omega)))).ha e)); have xc := KX.out.cell 3; have xf := KX.out.frozen 3; have xxl := KX.out.lt; clear howo hgrow hat hlto)
  have kf : Blk (w10.setCell ⟨w.heap.size + 1, 3, none⟩ (.slice (some ⟨g, 0, none⟩) (T.heaps.length + 1) cap)) (w.heap.size + 1) #[.int .i64 T.year, .slice T.la T.last.length T.lc, .slice T.ga T.given.length T.gc, .slice (some ⟨g, 0, none⟩) (T.heaps.length + 1) cap, .slice T.ua T.used.length T.uc, .slice T.wa T.waste.length T.wc] 29 := KX.out.set 3 _
  have ht : Turn (fun k => k = w.heap.size + 1) w10 (w10.setCell ⟨w.heap.size + 1, 3, none⟩ (.slice (some ⟨g, 0, none⟩) (T.heaps.length + 1) cap)) := (Turn.of_below (X := fun k => k = w.heap.size + 1) (Below.refl _ w10)).setCell (B := w.heap.size + 1) rfl 3 _
  generalize w10.setCell ⟨w.heap.size + 1, 3, none⟩ (.slice (some ⟨g, 0, none⟩) (T.heaps.length + 1) cap) = w11 at *
  have HTU := Lib.hid (show Turn (fun k => T.ha.map (·.block) = some k) (w7.alloc (.cells #[.string a.other, .int .i64 x.crop, .int .i64 3, .slice a1 G.length n1, .int .i64 a.per, .int .i64 x.wlo, .int .i64 x.whi] 53)) w10 by
    have := Turn.of_grown HGO.out
    simpa only [rowOf_own'] using this)
  have HATG := Lib.hid (show T.ha.map (·.block) = some g ∨ (w7.alloc (.cells #[.string a.other, .int .i64 x.crop, .int .i64 3, .slice a1 G.length n1, .int .i64 a.per, .int .i64 x.wlo, .int .i64 x.whi] 53)).heap.size ≤ g by
    rcases HAT.out with h1 | h1
    · rw [rowOf_own'] at h1; exact .inl h1
    · exact .inr (by omega))
  have hRn := (HT8.out.below HBE.out).pushHeap (y := ⟨a.other, x.crop, 3, a1, n1, G, a.per, x.wlo, x.whi⟩) HTU.out HATG.out HOO.out ⟨HG8.out.belowS HBE.out, HNO.out⟩ (HCG.out.mono HBE.out.size)
  have HOFX := Lib.hid (show OffTo (w.heap.size + 4) S { T with ha := some ⟨g, 0, none⟩, hc := cap, heaps := T.heaps ++ [⟨a.other, x.crop, 3, a1, n1, G, a.per, x.wlo, x.whi⟩] } from fun B hB ho => by
    have h1 := (show OffTo (w.heap.size + 4) S T from HOT.out) B hB ho
    refine ⟨h1.la, h1.ga, fun e => ?_, h1.ua, h1.wa, fun y hy => ?_⟩
    · have e2 : g = B := Option.some.inj e
      subst e2
      rcases HATG.out with h2 | h2
      · exact h1.ha h2
      · have := HBE.out.size; have := HSZW.out; omega
    · rcases List.mem_append.1 hy with hy | hy
      · exact h1.pa y hy
      · obtain rfl := List.mem_singleton.1 hy
        intro e
        have := HGN.out.2 B e
        have := HSZ56.out
        omega)
  have HRF := Lib.hid (hRn.turnAt ht (HOFX.out _ (by omega) (HS.out.off (.inl (by omega)))))
  have HTB := Lib.hid (show Turn (Hot S) w w11 from ((HB8.out.trans (Turn.of_below HBE.out)).trans2 HTU.out (fun k e => by
    rcases HHA.out with h5 | h5
    · rw [h5] at e; exact .inl (.inr (.inr e))
    · exact .inr (by have := h5 k e; have := HSZW6.out; omega))).far ht (fun k e => by rw [show k = w.heap.size + 1 from e]; omega))
  have KSF := Lib.hid kf
  have KRF := Lib.hid (ht.blk (HTU.out.blk (KR8.out.belowS HBE.out) (fun e => ((show OffTo (w.heap.size + 4) S T from HOT.out) _ (by omega) (HS.out.off (.inl (by omega)))).ha e)) (fun e => by have := (show w.heap.size + 1 + 1 + 1 = w.heap.size + 1 from e); omega))
  clear xc xf xxl kf ht hRn c0 c1 c2 c3 c4 c5 c6 c7 c8 cl x0 x1 x2 x3 x4 x5 x6 xl d3 dl
  obtain ⟨d0, d1, d2, d3, d4, d5⟩ := (show w11.cell? ⟨w.heap.size + 1, 0, none⟩ = some (.int .i64 T.year) ∧ w11.cell? ⟨w.heap.size + 1, 1, none⟩ = some (.slice T.la T.last.length T.lc) ∧ w11.cell? ⟨w.heap.size + 1, 2, none⟩ = some (.slice T.ga T.given.length T.gc) ∧ w11.cell? ⟨w.heap.size + 1, 3, none⟩ = some (.slice (some ⟨g, 0, none⟩) (T.heaps.length + 1) cap) ∧ w11.cell? ⟨w.heap.size + 1, 4, none⟩ = some (.slice T.ua T.used.length T.uc) ∧ w11.cell? ⟨w.heap.size + 1, 5, none⟩ = some (.slice T.wa T.waste.length T.wc) from ⟨KSF.out.cell 0, KSF.out.cell 1, KSF.out.cell 2, KSF.out.cell 3, KSF.out.cell 4, KSF.out.cell 5⟩)
  have dl := KSF.out.lt
  obtain ⟨rr0, rr1, rr2, rr3, rr4, rr5⟩ := zero_cells KRF.out
  have rrl := KRF.out.lt
  have rrz0 := KRF.out.frozen 0
  have rrz1 := KRF.out.frozen 1
  have rrz2 := KRF.out.frozen 2
  have rrz3 := KRF.out.frozen 3
  have rrz4 := KRF.out.frozen 4
  have rrz5 := KRF.out.frozen 5
  go_wp2_with fail
  have kf : Blk ((((((w11.setCell ⟨w.heap.size + 1 + 1 + 1, 0, none⟩ (.int .i64 T.year)).setCell ⟨w.heap.size + 1 + 1 + 1, 1, none⟩ (.slice T.la T.last.length T.lc)).setCell ⟨w.heap.size + 1 + 1 + 1, 2, none⟩ (.slice T.ga T.given.length T.gc)).setCell ⟨w.heap.size + 1 + 1 + 1, 3, none⟩ (.slice (some ⟨g, 0, none⟩) (T.heaps.length + 1) cap)).setCell ⟨w.heap.size + 1 + 1 + 1, 4, none⟩ (.slice T.ua T.used.length T.uc)).setCell ⟨w.heap.size + 1 + 1 + 1, 5, none⟩ (.slice T.wa T.waste.length T.wc)) (w.heap.size + 1 + 1 + 1) #[.int .i64 T.year, .slice T.la T.last.length T.lc, .slice T.ga T.given.length T.gc, .slice (some ⟨g, 0, none⟩) (T.heaps.length + 1) cap, .slice T.ua T.used.length T.uc, .slice T.wa T.waste.length T.wc] 29 := ((((((KRF.out.set 0 (.int .i64 T.year)).set 1 (.slice T.la T.last.length T.lc)).set 2 (.slice T.ga T.given.length T.gc)).set 3 (.slice (some ⟨g, 0, none⟩) (T.heaps.length + 1) cap)).set 4 (.slice T.ua T.used.length T.uc)).set 5 (.slice T.wa T.waste.length T.wc))
  have ht : Turn (fun k => k = w.heap.size + 1 + 1 + 1) w11 ((((((w11.setCell ⟨w.heap.size + 1 + 1 + 1, 0, none⟩ (.int .i64 T.year)).setCell ⟨w.heap.size + 1 + 1 + 1, 1, none⟩ (.slice T.la T.last.length T.lc)).setCell ⟨w.heap.size + 1 + 1 + 1, 2, none⟩ (.slice T.ga T.given.length T.gc)).setCell ⟨w.heap.size + 1 + 1 + 1, 3, none⟩ (.slice (some ⟨g, 0, none⟩) (T.heaps.length + 1) cap)).setCell ⟨w.heap.size + 1 + 1 + 1, 4, none⟩ (.slice T.ua T.used.length T.uc)).setCell ⟨w.heap.size + 1 + 1 + 1, 5, none⟩ (.slice T.wa T.waste.length T.wc)) := (((((((Turn.of_below (X := fun k => k = w.heap.size + 1 + 1 + 1) (Below.refl _ w11)).setCell (B := w.heap.size + 1 + 1 + 1) rfl 0 (.int .i64 T.year)).setCell (B := w.heap.size + 1 + 1 + 1) rfl 1 (.slice T.la T.last.length T.lc)).setCell (B := w.heap.size + 1 + 1 + 1) rfl 2 (.slice T.ga T.given.length T.gc)).setCell (B := w.heap.size + 1 + 1 + 1) rfl 3 (.slice (some ⟨g, 0, none⟩) (T.heaps.length + 1) cap)).setCell (B := w.heap.size + 1 + 1 + 1) rfl 4 (.slice T.ua T.used.length T.uc)).setCell (B := w.heap.size + 1 + 1 + 1) rfl 5 (.slice T.wa T.waste.length T.wc))
  generalize ((((((w11.setCell ⟨w.heap.size + 1 + 1 + 1, 0, none⟩ (.int .i64 T.year)).setCell ⟨w.heap.size + 1 + 1 + 1, 1, none⟩ (.slice T.la T.last.length T.lc)).setCell ⟨w.heap.size + 1 + 1 + 1, 2, none⟩ (.slice T.ga T.given.length T.gc)).setCell ⟨w.heap.size + 1 + 1 + 1, 3, none⟩ (.slice (some ⟨g, 0, none⟩) (T.heaps.length + 1) cap)).setCell ⟨w.heap.size + 1 + 1 + 1, 4, none⟩ (.slice T.ua T.used.length T.uc)).setCell ⟨w.heap.size + 1 + 1 + 1, 5, none⟩ (.slice T.wa T.waste.length T.wc)) = wf at *
  obtain ⟨g0, g1, g2, g3, g4, g5⟩ := (show wf.cell? ⟨w.heap.size + 1 + 1 + 1, 0, none⟩ = some (.int .i64 T.year) ∧ wf.cell? ⟨w.heap.size + 1 + 1 + 1, 1, none⟩ = some (.slice T.la T.last.length T.lc) ∧ wf.cell? ⟨w.heap.size + 1 + 1 + 1, 2, none⟩ = some (.slice T.ga T.given.length T.gc) ∧ wf.cell? ⟨w.heap.size + 1 + 1 + 1, 3, none⟩ = some (.slice (some ⟨g, 0, none⟩) (T.heaps.length + 1) cap) ∧ wf.cell? ⟨w.heap.size + 1 + 1 + 1, 4, none⟩ = some (.slice T.ua T.used.length T.uc) ∧ wf.cell? ⟨w.heap.size + 1 + 1 + 1, 5, none⟩ = some (.slice T.wa T.waste.length T.wc) from ⟨kf.cell 0, kf.cell 1, kf.cell 2, kf.cell 3, kf.cell 4, kf.cell 5⟩)
  have HV := Lib.hid (show (bindD F S a) = (0, { S with heaps := withH S.heaps i R ++ [⟨a.other, x.crop, 3, none, 0, G, a.per, x.wlo, x.whi⟩] }) by
    have h6 := H6.out
    rw [HMOD.out] at h6
    have e1 : loadsM x.parts - loadsM x.parts % a.per = q * a.per := by rw [HV0.out]; exact HDF.out.2.2.2.1.symm
    unfold bindD; rw [if_neg (by rw [HI.out]; omega), if_neg (by rw [H1.out]; decide), if_neg (by have := H2.out; omega), if_neg (not_not_intro (by rw [HXH.out]; exact H3.out)), if_neg (by rw [H4.out]; decide), if_neg (by rw [HXH.out, HV0.out]; have := HQ0.out; omega), if_neg (by rw [HXH.out, HV0.out]; exact not_not_intro h6), HXH.out, e1, HI.out, Int.toNat_natCast, HGG.out, HWM.out])
  have hs := HSM.out
  refine bodyPost_ret (v := .tuple #[.agg #[.int .i64 T.year, .slice T.la T.last.length T.lc, .slice T.ga T.given.length T.gc, .slice (some ⟨g, 0, none⟩) (T.heaps.length + 1) cap, .slice T.ua T.used.length T.uc, .slice T.wa T.waste.length T.wc], .int .i64 0]) (by simp [results, Tryz.results50, go_sem, g0, g1, g2, g3, g4, g5]) rfl ⟨⟨{ T with ha := some ⟨g, 0, none⟩, hc := cap, heaps := T.heaps ++ [⟨a.other, x.crop, 3, a1, n1, G, a.per, x.wlo, x.whi⟩] }, ?_, fun _ => ⟨HRF.out.turnAt ht (HOFX.out _ (by omega) (HS.out.off (.inl (by omega)))), ?_, fun B hB ho => HOFX.out B (by omega) ho⟩⟩, HTB.out.far ht (fun k e => by rw [show k = w.heap.size + 1 + 1 + 1 from e]; omega)⟩
  · rw [HV.out]
    simp
  · rw [HV.out]
    have h2 := hs.sameH.append (x := ⟨a.other, x.crop, 3, a1, n1, G, a.per, x.wlo, x.whi⟩) (y := ⟨a.other, x.crop, 3, none, 0, G, a.per, x.wlo, x.whi⟩) ⟨rfl, rfl, rfl, rfl, rfl, rfl, rfl⟩
    exact ⟨hs.year, hs.last, hs.given, hs.used, hs.waste, h2.1, h2.2⟩
end
end Go.Proofs.YtfhalmlpnoepcaaGreat
namespace Go.Proofs.YtfhalmlpnoepcaaGreat
section
set_option linter.unusedSimpArgs false
open Go.RowKit

/-- The farm is read wherever only rows from a block on have turned. -/
def FarmAt (base : Nat) (w : World) (F : Frm) : Prop := ∀ w', Below base w w' → IsFarm w' F
def MadeIf (base : Nat) (S : Sto) (D : Int × Sto) (w w' : World) (T : Sto) : Prop := D.1 = 0 → Rst base w' T ∧ SameSto T D.2 ∧ ∀ B, B < w.heap.size → Off B S → Off B T

set_option maxRecDepth 100000 in
set_option maxHeartbeats 32000000 in
theorem refDone1_any (base : Nat) (F : Frm) (S : Sto) (pl ld : Int) (nm ot : ByteArray) (dy pr rl rh : Int) (w : World) (hF : ∀ w', Below base w w' → IsFarm w' F) (hS : Rst base w S) (hbase : base ≤ w.heap.size) (hE : storeE F S = 0) (hfit : S.fit) (hnm : nm.size ≤ maxLen) (hno : ot.size ≤ maxLen) :
    Calls Tryz.prog 23 #[.agg #[.slice F.pa F.ps.length F.pc, .int .i64 F.dry], .agg #[.int .i64 S.year, .slice S.la S.last.length S.lc, .slice S.ga S.given.length S.gc, .slice S.ha S.heaps.length S.hc, .slice S.ua S.used.length S.uc, .slice S.wa S.waste.length S.wc], .agg #[.int .i64 1, .int .i64 pl, .int .i64 ld, .string nm, .string ot, .int .i64 dy, .int .i64 pr, .int .i64 rl, .int .i64 rh]] w (ChMade base S (yearD S) w) := by
  have HF := Lib.hid (show FarmAt base w F from hF)
  have HS := Lib.hid hS
  have HBASE := Lib.hid hbase
  have HE := Lib.hid hE
  have HFIT := Lib.hid hfit
  have HNM := Lib.hid hnm
  have HNO := Lib.hid hno
  have HUO := Lib.hid (show (∀ p ∈ S.used, p.ok F.ps.length) ∧ (∀ p ∈ S.waste, p.ok F.ps.length) from ⟨partsB_ok (store_ok hE).2.2.1, partsB_ok (store_ok hE).2.2.2.1⟩)
  have HYR := Lib.hid (years_ok hE).1
  clear hF hS hbase hE hfit hnm hno
  go_enter Tryz.func23, Tryz.ntmps23
  go_upto_region 1 with fail
  generalize hw1 : ((((w.alloc (.cells #[.slice F.pa F.ps.length F.pc, .int .i64 F.dry] 24)).alloc (.cells #[.int .i64 S.year, .slice S.la S.last.length S.lc, .slice S.ga S.given.length S.gc, .slice S.ha S.heaps.length S.hc, .slice S.ua S.used.length S.uc, .slice S.wa S.waste.length S.wc] 29)).alloc (.cells #[.int .i64 1, .int .i64 pl, .int .i64 ld, .string nm, .string ot, .int .i64 dy, .int .i64 pr, .int .i64 rl, .int .i64 rh] 34)).alloc (.cells #[.int .i64 0, .slice none 0 0, .slice none 0 0, .slice none 0 0, .slice none 0 0, .slice none 0 0] 29)) = w1
  obtain ⟨k1, k2, k3, k4, hb1⟩ := four_boxes w F S 1 pl ld nm ot dy pr rl rh _ _ _ w1 hw1.symm
  clear hw1
  have HB1 := Lib.hid (show Turn (Hot S) w w1 from Turn.of_below hb1)
  have HSZ1 := Lib.hid (Nat.le_trans HBASE.out hb1.size)
  have HWZ1 := Lib.hid (show w.heap.size + 4 ≤ w1.heap.size from k4.lt)
  have KF1 := Lib.hid k1
  have KS1 := Lib.hid k2
  have KA1 := Lib.hid k3
  have KR1 := Lib.hid k4
  have HS1 := Lib.hid (HS.out.below hb1)
  clear k1 k2 k3 k4 hb1
  obtain ⟨f0, f1⟩ := frm_cells KF1.out
  have fl := KF1.out.lt
  obtain ⟨d0, d1, d2, d3, d4, d5⟩ := sto_cells (S := S) KS1.out
  have dl := KS1.out.lt
  obtain ⟨c0, c1, c2, c3, c4, c5, c6, c7, c8⟩ := chr_cells KA1.out
  have cl := KA1.out.lt
  go_wp2_with fail
  refine (refAt_any S nm _ (HS1.out.store.heaps)).mono ?_
  rintro e w2 ⟨rfl, hb⟩
  clear f0 f1 fl d0 d1 d2 d3 d4 d5 dl c0 c1 c2 c3 c4 c5 c6 c7 c8 cl
  have KF2 := Lib.hid (KF1.out.belowS hb)
  have KS2 := Lib.hid (KS1.out.belowS hb)
  have KA2 := Lib.hid (KA1.out.belowS hb)
  have KR2 := Lib.hid (KR1.out.belowS hb)
  have HB2 := Lib.hid (HB1.out.trans (Turn.of_below hb))
  have HSZ2 := Lib.hid (Nat.le_trans HSZ1.out hb.size)
  have HWZ2 := Lib.hid (Nat.le_trans HWZ1.out hb.size)
  have HS2 := Lib.hid (HS1.out.below hb)
  clear hb KF1 KS1 KA1 KR1 HS1
  obtain ⟨ix, hix⟩ : ∃ ix, idxH S.heaps nm = ix := ⟨_, rfl⟩
  have HIX := Lib.hid hix
  rw [hix]
  clear hix
  obtain ⟨f0, f1⟩ := frm_cells KF2.out
  have fl := KF2.out.lt
  obtain ⟨d0, d1, d2, d3, d4, d5⟩ := sto_cells (S := S) KS2.out
  have dl := KS2.out.lt
  obtain ⟨c0, c1, c2, c3, c4, c5, c6, c7, c8⟩ := chr_cells KA2.out
  have cl := KA2.out.lt
  by_cases hy : S.year = 100
  · have hyb : (S.year == 100) = true := by simp [hy]
    have HV := Lib.hid (show (yearD S).1 = 3 by unfold yearD; rw [if_neg (by omega)])
    clear hy
    obtain ⟨rr0, rr1, rr2, rr3, rr4, rr5⟩ := zero_cells KR2.out
    have rrl := KR2.out.lt
    have rrz0 := KR2.out.frozen 0
    have rrz1 := KR2.out.frozen 1
    have rrz2 := KR2.out.frozen 2
    have rrz3 := KR2.out.frozen 3
    have rrz4 := KR2.out.frozen 4
    have rrz5 := KR2.out.frozen 5
    go_wp2_with fail
    refine put_end S KR2.out (Φ := bodyPost _ _ _ _ _) (fun wf ht kf => ?_)
    obtain ⟨g0, g1, g2, g3, g4, g5⟩ := sto_cells (S := S) kf
    exact bodyPost_ret (v := .tuple #[.agg #[.int .i64 S.year, .slice S.la S.last.length S.lc, .slice S.ga S.given.length S.gc, .slice S.ha S.heaps.length S.hc, .slice S.ua S.used.length S.uc, .slice S.wa S.waste.length S.wc], .int .i64 3]) (by simp [results, Tryz.results23, go_sem, g0, g1, g2, g3, g4, g5]) rfl (ChMade.err S HV.out (by decide) (HB2.out.far ht (fun k e => by rw [show k = w.heap.size + 1 + 1 + 1 from e]; omega)))
  have hyb : (S.year == 100) = false := by simp [hy]
  have hwy : IntKind.i64.wrap (S.year + 1) = S.year + 1 := by have := HYR.out; rw [IntKind.wrap_i64]; omega
  have HV := Lib.hid (show (yearD S) = (0, { S with year := S.year + 1 }) by unfold yearD; rw [if_pos (by have := HYR.out; omega)])
  have dz0 := KS2.out.frozen 0
  clear hy
  go_upto_region 7 with fail
  have kf : Blk (w2.setCell ⟨w.heap.size + 1, 0, none⟩ (.int .i64 (S.year + 1))) (w.heap.size + 1) #[.int .i64 (S.year + 1), .slice S.la S.last.length S.lc, .slice S.ga S.given.length S.gc, .slice S.ha S.heaps.length S.hc, .slice S.ua S.used.length S.uc, .slice S.wa S.waste.length S.wc] 29 := KS2.out.set 0 _
  have ht : Turn (fun k => k = w.heap.size + 1) w2 (w2.setCell ⟨w.heap.size + 1, 0, none⟩ (.int .i64 (S.year + 1))) := (Turn.of_below (X := fun k => k = w.heap.size + 1) (Below.refl _ w2)).setCell (B := w.heap.size + 1) rfl 0 _
  generalize w2.setCell ⟨w.heap.size + 1, 0, none⟩ (.int .i64 (S.year + 1)) = w3 at *
  clear f0 f1 fl d0 d1 d2 d3 d4 d5 dl c0 c1 c2 c3 c4 c5 c6 c7 c8 cl
  clear dz0 hyb hwy
  have KS3 := Lib.hid kf
  have KR3 := Lib.hid (ht.blk KR2.out (fun e => by have := (show w.heap.size + 1 + 1 + 1 = w.heap.size + 1 from e); omega))
  have HB3 := Lib.hid (HB2.out.far ht (fun k e => by rw [show k = w.heap.size + 1 from e]; omega))
  have HS3 := Lib.hid (HS2.out.turnAt ht (HS.out.off (.inl (by omega))))
  clear kf ht
  obtain ⟨d0, d1, d2, d3, d4, d5⟩ := (show w3.cell? ⟨w.heap.size + 1, 0, none⟩ = some (.int .i64 (S.year + 1)) ∧ w3.cell? ⟨w.heap.size + 1, 1, none⟩ = some (.slice S.la S.last.length S.lc) ∧ w3.cell? ⟨w.heap.size + 1, 2, none⟩ = some (.slice S.ga S.given.length S.gc) ∧ w3.cell? ⟨w.heap.size + 1, 3, none⟩ = some (.slice S.ha S.heaps.length S.hc) ∧ w3.cell? ⟨w.heap.size + 1, 4, none⟩ = some (.slice S.ua S.used.length S.uc) ∧ w3.cell? ⟨w.heap.size + 1, 5, none⟩ = some (.slice S.wa S.waste.length S.wc) from ⟨KS3.out.cell 0, KS3.out.cell 1, KS3.out.cell 2, KS3.out.cell 3, KS3.out.cell 4, KS3.out.cell 5⟩)
  have dl := KS3.out.lt
  obtain ⟨rr0, rr1, rr2, rr3, rr4, rr5⟩ := zero_cells KR3.out
  have rrl := KR3.out.lt
  have rrz0 := KR3.out.frozen 0
  have rrz1 := KR3.out.frozen 1
  have rrz2 := KR3.out.frozen 2
  have rrz3 := KR3.out.frozen 3
  have rrz4 := KR3.out.frozen 4
  have rrz5 := KR3.out.frozen 5
  go_wp2_with fail
  have kf : Blk ((((((w3.setCell ⟨w.heap.size + 1 + 1 + 1, 0, none⟩ (.int .i64 (S.year + 1))).setCell ⟨w.heap.size + 1 + 1 + 1, 1, none⟩ (.slice S.la S.last.length S.lc)).setCell ⟨w.heap.size + 1 + 1 + 1, 2, none⟩ (.slice S.ga S.given.length S.gc)).setCell ⟨w.heap.size + 1 + 1 + 1, 3, none⟩ (.slice S.ha S.heaps.length S.hc)).setCell ⟨w.heap.size + 1 + 1 + 1, 4, none⟩ (.slice S.ua S.used.length S.uc)).setCell ⟨w.heap.size + 1 + 1 + 1, 5, none⟩ (.slice S.wa S.waste.length S.wc)) (w.heap.size + 1 + 1 + 1) #[.int .i64 (S.year + 1), .slice S.la S.last.length S.lc, .slice S.ga S.given.length S.gc, .slice S.ha S.heaps.length S.hc, .slice S.ua S.used.length S.uc, .slice S.wa S.waste.length S.wc] 29 := ((((((KR3.out.set 0 (.int .i64 (S.year + 1))).set 1 (.slice S.la S.last.length S.lc)).set 2 (.slice S.ga S.given.length S.gc)).set 3 (.slice S.ha S.heaps.length S.hc)).set 4 (.slice S.ua S.used.length S.uc)).set 5 (.slice S.wa S.waste.length S.wc))
  have ht : Turn (fun k => k = w.heap.size + 1 + 1 + 1) w3 ((((((w3.setCell ⟨w.heap.size + 1 + 1 + 1, 0, none⟩ (.int .i64 (S.year + 1))).setCell ⟨w.heap.size + 1 + 1 + 1, 1, none⟩ (.slice S.la S.last.length S.lc)).setCell ⟨w.heap.size + 1 + 1 + 1, 2, none⟩ (.slice S.ga S.given.length S.gc)).setCell ⟨w.heap.size + 1 + 1 + 1, 3, none⟩ (.slice S.ha S.heaps.length S.hc)).setCell ⟨w.heap.size + 1 + 1 + 1, 4, none⟩ (.slice S.ua S.used.length S.uc)).setCell ⟨w.heap.size + 1 + 1 + 1, 5, none⟩ (.slice S.wa S.waste.length S.wc)) := (((((((Turn.of_below (X := fun k => k = w.heap.size + 1 + 1 + 1) (Below.refl _ w3)).setCell (B := w.heap.size + 1 + 1 + 1) rfl 0 (.int .i64 (S.year + 1))).setCell (B := w.heap.size + 1 + 1 + 1) rfl 1 (.slice S.la S.last.length S.lc)).setCell (B := w.heap.size + 1 + 1 + 1) rfl 2 (.slice S.ga S.given.length S.gc)).setCell (B := w.heap.size + 1 + 1 + 1) rfl 3 (.slice S.ha S.heaps.length S.hc)).setCell (B := w.heap.size + 1 + 1 + 1) rfl 4 (.slice S.ua S.used.length S.uc)).setCell (B := w.heap.size + 1 + 1 + 1) rfl 5 (.slice S.wa S.waste.length S.wc))
  generalize ((((((w3.setCell ⟨w.heap.size + 1 + 1 + 1, 0, none⟩ (.int .i64 (S.year + 1))).setCell ⟨w.heap.size + 1 + 1 + 1, 1, none⟩ (.slice S.la S.last.length S.lc)).setCell ⟨w.heap.size + 1 + 1 + 1, 2, none⟩ (.slice S.ga S.given.length S.gc)).setCell ⟨w.heap.size + 1 + 1 + 1, 3, none⟩ (.slice S.ha S.heaps.length S.hc)).setCell ⟨w.heap.size + 1 + 1 + 1, 4, none⟩ (.slice S.ua S.used.length S.uc)).setCell ⟨w.heap.size + 1 + 1 + 1, 5, none⟩ (.slice S.wa S.waste.length S.wc)) = wf at *
  obtain ⟨g0, g1, g2, g3, g4, g5⟩ := (show wf.cell? ⟨w.heap.size + 1 + 1 + 1, 0, none⟩ = some (.int .i64 (S.year + 1)) ∧ wf.cell? ⟨w.heap.size + 1 + 1 + 1, 1, none⟩ = some (.slice S.la S.last.length S.lc) ∧ wf.cell? ⟨w.heap.size + 1 + 1 + 1, 2, none⟩ = some (.slice S.ga S.given.length S.gc) ∧ wf.cell? ⟨w.heap.size + 1 + 1 + 1, 3, none⟩ = some (.slice S.ha S.heaps.length S.hc) ∧ wf.cell? ⟨w.heap.size + 1 + 1 + 1, 4, none⟩ = some (.slice S.ua S.used.length S.uc) ∧ wf.cell? ⟨w.heap.size + 1 + 1 + 1, 5, none⟩ = some (.slice S.wa S.waste.length S.wc) from ⟨kf.cell 0, kf.cell 1, kf.cell 2, kf.cell 3, kf.cell 4, kf.cell 5⟩)
  have hoff : OffTo (w.heap.size + 4) S { S with year := S.year + 1 } := fun B _ ho => ⟨ho.la, ho.ga, ho.ha, ho.ua, ho.wa, ho.pa⟩
  refine bodyPost_ret (v := .tuple #[.agg #[.int .i64 (S.year + 1), .slice S.la S.last.length S.lc, .slice S.ga S.given.length S.gc, .slice S.ha S.heaps.length S.hc, .slice S.ua S.used.length S.uc, .slice S.wa S.waste.length S.wc], .int .i64 0]) (by simp [results, Tryz.results23, go_sem, g0, g1, g2, g3, g4, g5]) rfl ⟨⟨{ S with year := S.year + 1 }, by rw [HV.out], fun _ => ⟨(HS3.out.setYear _).turnAt ht (hoff _ (by omega) (HS.out.off (.inl (by omega)))), ?_, fun B hB ho => hoff B (by omega) ho⟩⟩, HB3.out.far ht (fun k e => by rw [show k = w.heap.size + 1 + 1 + 1 from e]; omega)⟩
  rw [HV.out]
  exact SameSto.refl _

set_option maxRecDepth 100000 in
set_option maxHeartbeats 32000000 in
theorem refDone2_any (base : Nat) (F : Frm) (S : Sto) (pl ld : Int) (nm ot : ByteArray) (dy pr rl rh : Int) (w : World) (hF : ∀ w', Below base w w' → IsFarm w' F) (hS : Rst base w S) (hbase : base ≤ w.heap.size) (hE : storeE F S = 0) (hfit : S.fit) (hnm : nm.size ≤ maxLen) (hno : ot.size ≤ maxLen) :
    Calls Tryz.prog 23 #[.agg #[.slice F.pa F.ps.length F.pc, .int .i64 F.dry], .agg #[.int .i64 S.year, .slice S.la S.last.length S.lc, .slice S.ga S.given.length S.gc, .slice S.ha S.heaps.length S.hc, .slice S.ua S.used.length S.uc, .slice S.wa S.waste.length S.wc], .agg #[.int .i64 2, .int .i64 pl, .int .i64 ld, .string nm, .string ot, .int .i64 dy, .int .i64 pr, .int .i64 rl, .int .i64 rh]] w (ChMade base S (cutD F S ⟨2, pl, ld, nm, ot, dy, pr, rl, rh⟩) w) := by
  have HF := Lib.hid (show FarmAt base w F from hF)
  have HS := Lib.hid hS
  have HBASE := Lib.hid hbase
  have HE := Lib.hid hE
  have HFIT := Lib.hid hfit
  have HNM := Lib.hid hnm
  have HNO := Lib.hid hno
  have HUO := Lib.hid (show (∀ p ∈ S.used, p.ok F.ps.length) ∧ (∀ p ∈ S.waste, p.ok F.ps.length) from ⟨partsB_ok (store_ok hE).2.2.1, partsB_ok (store_ok hE).2.2.2.1⟩)
  have HYR := Lib.hid (years_ok hE).1
  clear hF hS hbase hE hfit hnm hno
  go_enter Tryz.func23, Tryz.ntmps23
  go_upto_region 1 with fail
  generalize hw1 : ((((w.alloc (.cells #[.slice F.pa F.ps.length F.pc, .int .i64 F.dry] 24)).alloc (.cells #[.int .i64 S.year, .slice S.la S.last.length S.lc, .slice S.ga S.given.length S.gc, .slice S.ha S.heaps.length S.hc, .slice S.ua S.used.length S.uc, .slice S.wa S.waste.length S.wc] 29)).alloc (.cells #[.int .i64 2, .int .i64 pl, .int .i64 ld, .string nm, .string ot, .int .i64 dy, .int .i64 pr, .int .i64 rl, .int .i64 rh] 34)).alloc (.cells #[.int .i64 0, .slice none 0 0, .slice none 0 0, .slice none 0 0, .slice none 0 0, .slice none 0 0] 29)) = w1
  obtain ⟨k1, k2, k3, k4, hb1⟩ := four_boxes w F S 2 pl ld nm ot dy pr rl rh _ _ _ w1 hw1.symm
  clear hw1
  have HB1 := Lib.hid (show Turn (Hot S) w w1 from Turn.of_below hb1)
  have HSZ1 := Lib.hid (Nat.le_trans HBASE.out hb1.size)
  have HWZ1 := Lib.hid (show w.heap.size + 4 ≤ w1.heap.size from k4.lt)
  have KF1 := Lib.hid k1
  have KS1 := Lib.hid k2
  have KA1 := Lib.hid k3
  have KR1 := Lib.hid k4
  have HS1 := Lib.hid (HS.out.below hb1)
  clear k1 k2 k3 k4 hb1
  obtain ⟨f0, f1⟩ := frm_cells KF1.out
  have fl := KF1.out.lt
  obtain ⟨d0, d1, d2, d3, d4, d5⟩ := sto_cells (S := S) KS1.out
  have dl := KS1.out.lt
  obtain ⟨c0, c1, c2, c3, c4, c5, c6, c7, c8⟩ := chr_cells KA1.out
  have cl := KA1.out.lt
  go_wp2_with fail
  refine (refAt_any S nm _ (HS1.out.store.heaps)).mono ?_
  rintro e w2 ⟨rfl, hb⟩
  clear f0 f1 fl d0 d1 d2 d3 d4 d5 dl c0 c1 c2 c3 c4 c5 c6 c7 c8 cl
  have KF2 := Lib.hid (KF1.out.belowS hb)
  have KS2 := Lib.hid (KS1.out.belowS hb)
  have KA2 := Lib.hid (KA1.out.belowS hb)
  have KR2 := Lib.hid (KR1.out.belowS hb)
  have HB2 := Lib.hid (HB1.out.trans (Turn.of_below hb))
  have HSZ2 := Lib.hid (Nat.le_trans HSZ1.out hb.size)
  have HWZ2 := Lib.hid (Nat.le_trans HWZ1.out hb.size)
  have HS2 := Lib.hid (HS1.out.below hb)
  clear hb KF1 KS1 KA1 KR1 HS1
  obtain ⟨ix, hix⟩ : ∃ ix, idxH S.heaps nm = ix := ⟨_, rfl⟩
  have HIX := Lib.hid hix
  rw [hix]
  clear hix
  obtain ⟨f0, f1⟩ := frm_cells KF2.out
  have fl := KF2.out.lt
  obtain ⟨d0, d1, d2, d3, d4, d5⟩ := sto_cells (S := S) KS2.out
  have dl := KS2.out.lt
  obtain ⟨c0, c1, c2, c3, c4, c5, c6, c7, c8⟩ := chr_cells KA2.out
  have cl := KA2.out.lt
  go_wp2_with fail
  refine (refMown_any base F S ⟨2, pl, ld, nm, ot, dy, pr, rl, rh⟩ _ (fun w' hb => HF.out w' ((HB2.out.below HBASE.out (fun k e => (HS.out.hot e).1)).trans hb)) HS2.out HSZ2.out HE.out HFIT.out HNM.out).mono ?_
  rintro e w3 ⟨⟨T, rfl, hT⟩, hb⟩
  clear f0 f1 fl d0 d1 d2 d3 d4 d5 dl c0 c1 c2 c3 c4 c5 c6 c7 c8 cl
  have HD := Lib.hid (show MadeIf base S (cutD F S ⟨2, pl, ld, nm, ot, dy, pr, rl, rh⟩) w2 w3 T from hT)
  have KR3 := Lib.hid (hb.blk KR2.out (fun e => by have := (HS.out.hot e).2; omega))
  have HB3 := Lib.hid (HB2.out.trans hb)
  clear hT hb
  obtain ⟨ee, hee⟩ : ∃ ee, (cutD F S ⟨2, pl, ld, nm, ot, dy, pr, rl, rh⟩).1 = ee := ⟨_, rfl⟩
  rw [hee]
  have HEE := Lib.hid hee
  clear hee
  unfold stoV
  obtain ⟨rr0, rr1, rr2, rr3, rr4, rr5⟩ := zero_cells KR3.out
  have rrl := KR3.out.lt
  have rrz0 := KR3.out.frozen 0
  have rrz1 := KR3.out.frozen 1
  have rrz2 := KR3.out.frozen 2
  have rrz3 := KR3.out.frozen 3
  have rrz4 := KR3.out.frozen 4
  have rrz5 := KR3.out.frozen 5
  go_wp2_with fail
  refine put_end T KR3.out (Φ := bodyPost _ _ _ _ _) (fun wf ht kf => ?_)
  obtain ⟨g0, g1, g2, g3, g4, g5⟩ := sto_cells (S := T) kf
  refine bodyPost_ret (v := .tuple #[.agg #[.int .i64 T.year, .slice T.la T.last.length T.lc, .slice T.ga T.given.length T.gc, .slice T.ha T.heaps.length T.hc, .slice T.ua T.used.length T.uc, .slice T.wa T.waste.length T.wc], .int .i64 ee]) (by simp [results, Tryz.results23, go_sem, g0, g1, g2, g3, g4, g5]) rfl ⟨⟨T, by rw [HEE.out], fun h0 => ?_⟩, HB3.out.far ht (fun k e => by rw [show k = w.heap.size + 1 + 1 + 1 from e]; omega)⟩
  obtain ⟨h1, h2, h3⟩ := HD.out h0
  have hz := HWZ2.out
  exact ⟨h1.turnAt ht (h3 _ (by omega) (HS.out.off (.inl (by omega)))), h2, fun B hB ho => h3 B (by omega) ho⟩

set_option maxRecDepth 100000 in
set_option maxHeartbeats 32000000 in
theorem refDone5_any (base : Nat) (F : Frm) (S : Sto) (pl ld : Int) (nm ot : ByteArray) (dy pr rl rh : Int) (w : World) (hF : ∀ w', Below base w w' → IsFarm w' F) (hS : Rst base w S) (hbase : base ≤ w.heap.size) (hE : storeE F S = 0) (hfit : S.fit) (hnm : nm.size ≤ maxLen) (hno : ot.size ≤ maxLen) :
    Calls Tryz.prog 23 #[.agg #[.slice F.pa F.ps.length F.pc, .int .i64 F.dry], .agg #[.int .i64 S.year, .slice S.la S.last.length S.lc, .slice S.ga S.given.length S.gc, .slice S.ha S.heaps.length S.hc, .slice S.ua S.used.length S.uc, .slice S.wa S.waste.length S.wc], .agg #[.int .i64 5, .int .i64 pl, .int .i64 ld, .string nm, .string ot, .int .i64 dy, .int .i64 pr, .int .i64 rl, .int .i64 rh]] w (ChMade base S (joinD S ⟨5, pl, ld, nm, ot, dy, pr, rl, rh⟩) w) := by
  have HF := Lib.hid (show FarmAt base w F from hF)
  have HS := Lib.hid hS
  have HBASE := Lib.hid hbase
  have HE := Lib.hid hE
  have HFIT := Lib.hid hfit
  have HNM := Lib.hid hnm
  have HNO := Lib.hid hno
  have HUO := Lib.hid (show (∀ p ∈ S.used, p.ok F.ps.length) ∧ (∀ p ∈ S.waste, p.ok F.ps.length) from ⟨partsB_ok (store_ok hE).2.2.1, partsB_ok (store_ok hE).2.2.2.1⟩)
  have HYR := Lib.hid (years_ok hE).1
  clear hF hS hbase hE hfit hnm hno
  go_enter Tryz.func23, Tryz.ntmps23
  go_upto_region 1 with fail
  generalize hw1 : ((((w.alloc (.cells #[.slice F.pa F.ps.length F.pc, .int .i64 F.dry] 24)).alloc (.cells #[.int .i64 S.year, .slice S.la S.last.length S.lc, .slice S.ga S.given.length S.gc, .slice S.ha S.heaps.length S.hc, .slice S.ua S.used.length S.uc, .slice S.wa S.waste.length S.wc] 29)).alloc (.cells #[.int .i64 5, .int .i64 pl, .int .i64 ld, .string nm, .string ot, .int .i64 dy, .int .i64 pr, .int .i64 rl, .int .i64 rh] 34)).alloc (.cells #[.int .i64 0, .slice none 0 0, .slice none 0 0, .slice none 0 0, .slice none 0 0, .slice none 0 0] 29)) = w1
  obtain ⟨k1, k2, k3, k4, hb1⟩ := four_boxes w F S 5 pl ld nm ot dy pr rl rh _ _ _ w1 hw1.symm
  clear hw1
  have HB1 := Lib.hid (show Turn (Hot S) w w1 from Turn.of_below hb1)
  have HSZ1 := Lib.hid (Nat.le_trans HBASE.out hb1.size)
  have HWZ1 := Lib.hid (show w.heap.size + 4 ≤ w1.heap.size from k4.lt)
  have KF1 := Lib.hid k1
  have KS1 := Lib.hid k2
  have KA1 := Lib.hid k3
  have KR1 := Lib.hid k4
  have HS1 := Lib.hid (HS.out.below hb1)
  clear k1 k2 k3 k4 hb1
  obtain ⟨f0, f1⟩ := frm_cells KF1.out
  have fl := KF1.out.lt
  obtain ⟨d0, d1, d2, d3, d4, d5⟩ := sto_cells (S := S) KS1.out
  have dl := KS1.out.lt
  obtain ⟨c0, c1, c2, c3, c4, c5, c6, c7, c8⟩ := chr_cells KA1.out
  have cl := KA1.out.lt
  go_wp2_with fail
  refine (refAt_any S nm _ (HS1.out.store.heaps)).mono ?_
  rintro e w2 ⟨rfl, hb⟩
  clear f0 f1 fl d0 d1 d2 d3 d4 d5 dl c0 c1 c2 c3 c4 c5 c6 c7 c8 cl
  have KF2 := Lib.hid (KF1.out.belowS hb)
  have KS2 := Lib.hid (KS1.out.belowS hb)
  have KA2 := Lib.hid (KA1.out.belowS hb)
  have KR2 := Lib.hid (KR1.out.belowS hb)
  have HB2 := Lib.hid (HB1.out.trans (Turn.of_below hb))
  have HSZ2 := Lib.hid (Nat.le_trans HSZ1.out hb.size)
  have HWZ2 := Lib.hid (Nat.le_trans HWZ1.out hb.size)
  have HS2 := Lib.hid (HS1.out.below hb)
  clear hb KF1 KS1 KA1 KR1 HS1
  obtain ⟨ix, hix⟩ : ∃ ix, idxH S.heaps nm = ix := ⟨_, rfl⟩
  have HIX := Lib.hid hix
  rw [hix]
  clear hix
  obtain ⟨f0, f1⟩ := frm_cells KF2.out
  have fl := KF2.out.lt
  obtain ⟨d0, d1, d2, d3, d4, d5⟩ := sto_cells (S := S) KS2.out
  have dl := KS2.out.lt
  obtain ⟨c0, c1, c2, c3, c4, c5, c6, c7, c8⟩ := chr_cells KA2.out
  have cl := KA2.out.lt
  by_cases h3 : ix < 0
  · have HV := Lib.hid (show (joinD S ⟨5, pl, ld, nm, ot, dy, pr, rl, rh⟩).1 = 7 by unfold joinD; rw [if_pos (by dsimp only; rw [HIX.out]; exact h3)])
    obtain ⟨rr0, rr1, rr2, rr3, rr4, rr5⟩ := zero_cells KR2.out
    have rrl := KR2.out.lt
    have rrz0 := KR2.out.frozen 0
    have rrz1 := KR2.out.frozen 1
    have rrz2 := KR2.out.frozen 2
    have rrz3 := KR2.out.frozen 3
    have rrz4 := KR2.out.frozen 4
    have rrz5 := KR2.out.frozen 5
    go_wp2_with fail
    refine put_end S KR2.out (Φ := bodyPost _ _ _ _ _) (fun wf ht kf => ?_)
    obtain ⟨g0, g1, g2, g3, g4, g5⟩ := sto_cells (S := S) kf
    exact bodyPost_ret (v := .tuple #[.agg #[.int .i64 S.year, .slice S.la S.last.length S.lc, .slice S.ga S.given.length S.gc, .slice S.ha S.heaps.length S.hc, .slice S.ua S.used.length S.uc, .slice S.wa S.waste.length S.wc], .int .i64 7]) (by simp [results, Tryz.results23, go_sem, g0, g1, g2, g3, g4, g5]) rfl (ChMade.err S HV.out (by decide) (HB2.out.far ht (fun k e => by rw [show k = w.heap.size + 1 + 1 + 1 from e]; omega)))
  have hix2 := idxH_at (show 0 ≤ idxH S.heaps nm by rw [HIX.out]; omega)
  obtain ⟨i, x, hm1, hm2, hm3, _⟩ := hix2
  obtain rfl : ix = (i : Int) := by rw [← HIX.out, hm1]
  have HXH := Lib.hid (hepAt_of hm1 hm3)
  have HX := Lib.hid hm3
  have HXM := Lib.hid (List.mem_of_getElem? hm3)
  have HXO := Lib.hid (heap_ok HE.out HFIT.out (List.mem_of_getElem? hm3))
  have HIL := Lib.hid hm2
  have HNI := Lib.hid (show ¬ idxH S.heaps nm < 0 by rw [HIX.out]; exact h3)
  have hi0 : (0 : Int) ≤ (i : Int) := Int.natCast_nonneg _
  have hi1 : (i : Int) < (S.heaps.length : Int) := by omega
  clear hm1 hm2 hm3 h3
  obtain ⟨g, hg, hgb, hcap, hcx, hcs, _⟩ := HS2.out.heapAt HX.out
  have HG := Lib.hid hg
  have HGB := Lib.hid (show base ≤ g ∧ g < w.heap.size from own_geq HS.out.heaps (k := g) (by rw [hg]; rfl))
  have v0 : w2.cell? ⟨g, i * 7, none⟩ = some (.string x.name) := hcs 0 _ rfl
  have v1 : w2.cell? ⟨g, i * 7 + 1, none⟩ = some (.int .i64 x.crop) := hcs 1 _ rfl
  have v2 : w2.cell? ⟨g, i * 7 + 2, none⟩ = some (.int .i64 x.stage) := hcs 2 _ rfl
  have v3 : w2.cell? ⟨g, i * 7 + 3, none⟩ = some (.slice x.pa x.parts.length x.pc) := hcs 3 _ rfl
  have v4 : w2.cell? ⟨g, i * 7 + 4, none⟩ = some (.int .i64 x.per) := hcs 4 _ rfl
  have v5 : w2.cell? ⟨g, i * 7 + 5, none⟩ = some (.int .i64 x.wlo) := hcs 5 _ rfl
  have v6 : w2.cell? ⟨g, i * 7 + 6, none⟩ = some (.int .i64 x.whi) := hcs 6 _ rfl
  have lg := hgb.2
  rw [hg] at d3
  have kX := Blk.new w2 53 #[.string x.name, .int .i64 x.crop, .int .i64 x.stage, .slice x.pa x.parts.length x.pc, .int .i64 x.per, .int .i64 x.wlo, .int .i64 x.whi]
  have hb3 : Below w2.heap.size w2 (w2.alloc (.cells #[.string x.name, .int .i64 x.crop, .int .i64 x.stage, .slice x.pa x.parts.length x.pc, .int .i64 x.per, .int .i64 x.wlo, .int .i64 x.whi] 53)) := (Below.refl _ w2).alloc (Nat.le_refl _) _
  clear hg hcs hgb
  go_upto_region 13 with fail
  clear v0 v1 v2 v3 v4 v5 v6 lg hcap hcx
  clear f0 f1 fl d0 d1 d2 d3 d4 d5 dl c0 c1 c2 c3 c4 c5 c6 c7 c8 cl
  have KF3 := Lib.hid (KF2.out.belowS hb3)
  have KS3 := Lib.hid (KS2.out.belowS hb3)
  have KA3 := Lib.hid (KA2.out.belowS hb3)
  have KR3 := Lib.hid (KR2.out.belowS hb3)
  have HB3 := Lib.hid (HB2.out.trans (Turn.of_below hb3))
  have HSZ3 := Lib.hid (Nat.le_trans HSZ2.out hb3.size)
  have HWZ3 := Lib.hid (Nat.le_trans HWZ2.out hb3.size)
  have HS3 := Lib.hid (HS2.out.below hb3)
  generalize w2.alloc (.cells #[.string x.name, .int .i64 x.crop, .int .i64 x.stage, .slice x.pa x.parts.length x.pc, .int .i64 x.per, .int .i64 x.wlo, .int .i64 x.whi] 53) = w3 at *
  have HBH0 := Lib.hid HWZ2.out
  obtain ⟨bh, hbh⟩ : ∃ bh, bh = w2.heap.size := ⟨_, rfl⟩
  rw [← hbh] at kX HBH0 ⊢
  clear hbh hb3 KF2 KS2 KA2 KR2 HS2
  have KH3 := Lib.hid kX
  clear kX
  obtain ⟨f0, f1⟩ := frm_cells KF3.out
  have fl := KF3.out.lt
  obtain ⟨d0, d1, d2, d3, d4, d5⟩ := sto_cells (S := S) KS3.out
  have dl := KS3.out.lt
  obtain ⟨c0, c1, c2, c3, c4, c5, c6, c7, c8⟩ := chr_cells KA3.out
  have cl := KA3.out.lt
  obtain ⟨x0, x1, x2, x3, x4, x5, x6⟩ := hepB_cells KH3.out
  have xl := KH3.out.lt
  go_wp2_with fail
  refine (refMerged_any base F S ⟨5, pl, ld, nm, ot, dy, pr, rl, rh⟩ i x _ HS3.out HSZ3.out HE.out HFIT.out HIX.out HX.out).mono ?_
  rintro e w4 ⟨⟨T, rfl, hT⟩, hb⟩
  clear f0 f1 fl d0 d1 d2 d3 d4 d5 dl c0 c1 c2 c3 c4 c5 c6 c7 c8 cl x0 x1 x2 x3 x4 x5 x6 xl
  have HD := Lib.hid (show MadeIf base S (joinD S ⟨5, pl, ld, nm, ot, dy, pr, rl, rh⟩) w3 w4 T from hT)
  have KR4 := Lib.hid (hb.blk KR3.out (fun e => by have := (HS.out.hot e).2; omega))
  have HB4 := Lib.hid (HB3.out.trans hb)
  clear hT hb
  obtain ⟨ee, hee⟩ : ∃ ee, (joinD S ⟨5, pl, ld, nm, ot, dy, pr, rl, rh⟩).1 = ee := ⟨_, rfl⟩
  rw [hee]
  have HEE := Lib.hid hee
  clear hee
  unfold stoV
  obtain ⟨rr0, rr1, rr2, rr3, rr4, rr5⟩ := zero_cells KR4.out
  have rrl := KR4.out.lt
  have rrz0 := KR4.out.frozen 0
  have rrz1 := KR4.out.frozen 1
  have rrz2 := KR4.out.frozen 2
  have rrz3 := KR4.out.frozen 3
  have rrz4 := KR4.out.frozen 4
  have rrz5 := KR4.out.frozen 5
  go_wp2_with fail
  refine put_end T KR4.out (Φ := bodyPost _ _ _ _ _) (fun wf ht kf => ?_)
  obtain ⟨g0, g1, g2, g3, g4, g5⟩ := sto_cells (S := T) kf
  refine bodyPost_ret (v := .tuple #[.agg #[.int .i64 T.year, .slice T.la T.last.length T.lc, .slice T.ga T.given.length T.gc, .slice T.ha T.heaps.length T.hc, .slice T.ua T.used.length T.uc, .slice T.wa T.waste.length T.wc], .int .i64 ee]) (by simp [results, Tryz.results23, go_sem, g0, g1, g2, g3, g4, g5]) rfl ⟨⟨T, by rw [HEE.out], fun h0 => ?_⟩, HB4.out.far ht (fun k e => by rw [show k = w.heap.size + 1 + 1 + 1 from e]; omega)⟩
  obtain ⟨h1, h2, h3⟩ := HD.out h0
  have hz := HWZ3.out
  exact ⟨h1.turnAt ht (h3 _ (by omega) (HS.out.off (.inl (by omega)))), h2, fun B hB ho => h3 B (by omega) ho⟩

set_option maxRecDepth 100000 in
set_option maxHeartbeats 32000000 in
theorem refDone6_any (base : Nat) (F : Frm) (S : Sto) (pl ld : Int) (nm ot : ByteArray) (dy pr rl rh : Int) (w : World) (hF : ∀ w', Below base w w' → IsFarm w' F) (hS : Rst base w S) (hbase : base ≤ w.heap.size) (hE : storeE F S = 0) (hfit : S.fit) (hnm : nm.size ≤ maxLen) (hno : ot.size ≤ maxLen) :
    Calls Tryz.prog 23 #[.agg #[.slice F.pa F.ps.length F.pc, .int .i64 F.dry], .agg #[.int .i64 S.year, .slice S.la S.last.length S.lc, .slice S.ga S.given.length S.gc, .slice S.ha S.heaps.length S.hc, .slice S.ua S.used.length S.uc, .slice S.wa S.waste.length S.wc], .agg #[.int .i64 6, .int .i64 pl, .int .i64 ld, .string nm, .string ot, .int .i64 dy, .int .i64 pr, .int .i64 rl, .int .i64 rh]] w (ChMade base S (bindD F S ⟨6, pl, ld, nm, ot, dy, pr, rl, rh⟩) w) := by
  have HF := Lib.hid (show FarmAt base w F from hF)
  have HS := Lib.hid hS
  have HBASE := Lib.hid hbase
  have HE := Lib.hid hE
  have HFIT := Lib.hid hfit
  have HNM := Lib.hid hnm
  have HNO := Lib.hid hno
  have HUO := Lib.hid (show (∀ p ∈ S.used, p.ok F.ps.length) ∧ (∀ p ∈ S.waste, p.ok F.ps.length) from ⟨partsB_ok (store_ok hE).2.2.1, partsB_ok (store_ok hE).2.2.2.1⟩)
  have HYR := Lib.hid (years_ok hE).1
  clear hF hS hbase hE hfit hnm hno
  go_enter Tryz.func23, Tryz.ntmps23
  go_upto_region 1 with fail
  generalize hw1 : ((((w.alloc (.cells #[.slice F.pa F.ps.length F.pc, .int .i64 F.dry] 24)).alloc (.cells #[.int .i64 S.year, .slice S.la S.last.length S.lc, .slice S.ga S.given.length S.gc, .slice S.ha S.heaps.length S.hc, .slice S.ua S.used.length S.uc, .slice S.wa S.waste.length S.wc] 29)).alloc (.cells #[.int .i64 6, .int .i64 pl, .int .i64 ld, .string nm, .string ot, .int .i64 dy, .int .i64 pr, .int .i64 rl, .int .i64 rh] 34)).alloc (.cells #[.int .i64 0, .slice none 0 0, .slice none 0 0, .slice none 0 0, .slice none 0 0, .slice none 0 0] 29)) = w1
  obtain ⟨k1, k2, k3, k4, hb1⟩ := four_boxes w F S 6 pl ld nm ot dy pr rl rh _ _ _ w1 hw1.symm
  clear hw1
  have HB1 := Lib.hid (show Turn (Hot S) w w1 from Turn.of_below hb1)
  have HSZ1 := Lib.hid (Nat.le_trans HBASE.out hb1.size)
  have HWZ1 := Lib.hid (show w.heap.size + 4 ≤ w1.heap.size from k4.lt)
  have KF1 := Lib.hid k1
  have KS1 := Lib.hid k2
  have KA1 := Lib.hid k3
  have KR1 := Lib.hid k4
  have HS1 := Lib.hid (HS.out.below hb1)
  clear k1 k2 k3 k4 hb1
  obtain ⟨f0, f1⟩ := frm_cells KF1.out
  have fl := KF1.out.lt
  obtain ⟨d0, d1, d2, d3, d4, d5⟩ := sto_cells (S := S) KS1.out
  have dl := KS1.out.lt
  obtain ⟨c0, c1, c2, c3, c4, c5, c6, c7, c8⟩ := chr_cells KA1.out
  have cl := KA1.out.lt
  go_wp2_with fail
  refine (refAt_any S nm _ (HS1.out.store.heaps)).mono ?_
  rintro e w2 ⟨rfl, hb⟩
  clear f0 f1 fl d0 d1 d2 d3 d4 d5 dl c0 c1 c2 c3 c4 c5 c6 c7 c8 cl
  have KF2 := Lib.hid (KF1.out.belowS hb)
  have KS2 := Lib.hid (KS1.out.belowS hb)
  have KA2 := Lib.hid (KA1.out.belowS hb)
  have KR2 := Lib.hid (KR1.out.belowS hb)
  have HB2 := Lib.hid (HB1.out.trans (Turn.of_below hb))
  have HSZ2 := Lib.hid (Nat.le_trans HSZ1.out hb.size)
  have HWZ2 := Lib.hid (Nat.le_trans HWZ1.out hb.size)
  have HS2 := Lib.hid (HS1.out.below hb)
  clear hb KF1 KS1 KA1 KR1 HS1
  obtain ⟨ix, hix⟩ : ∃ ix, idxH S.heaps nm = ix := ⟨_, rfl⟩
  have HIX := Lib.hid hix
  rw [hix]
  clear hix
  obtain ⟨f0, f1⟩ := frm_cells KF2.out
  have fl := KF2.out.lt
  obtain ⟨d0, d1, d2, d3, d4, d5⟩ := sto_cells (S := S) KS2.out
  have dl := KS2.out.lt
  obtain ⟨c0, c1, c2, c3, c4, c5, c6, c7, c8⟩ := chr_cells KA2.out
  have cl := KA2.out.lt
  by_cases h3 : ix < 0
  · have HV := Lib.hid (show (bindD F S ⟨6, pl, ld, nm, ot, dy, pr, rl, rh⟩).1 = 7 by unfold bindD; rw [if_pos (by dsimp only; rw [HIX.out]; exact h3)])
    obtain ⟨rr0, rr1, rr2, rr3, rr4, rr5⟩ := zero_cells KR2.out
    have rrl := KR2.out.lt
    have rrz0 := KR2.out.frozen 0
    have rrz1 := KR2.out.frozen 1
    have rrz2 := KR2.out.frozen 2
    have rrz3 := KR2.out.frozen 3
    have rrz4 := KR2.out.frozen 4
    have rrz5 := KR2.out.frozen 5
    go_wp2_with fail
    refine put_end S KR2.out (Φ := bodyPost _ _ _ _ _) (fun wf ht kf => ?_)
    obtain ⟨g0, g1, g2, g3, g4, g5⟩ := sto_cells (S := S) kf
    exact bodyPost_ret (v := .tuple #[.agg #[.int .i64 S.year, .slice S.la S.last.length S.lc, .slice S.ga S.given.length S.gc, .slice S.ha S.heaps.length S.hc, .slice S.ua S.used.length S.uc, .slice S.wa S.waste.length S.wc], .int .i64 7]) (by simp [results, Tryz.results23, go_sem, g0, g1, g2, g3, g4, g5]) rfl (ChMade.err S HV.out (by decide) (HB2.out.far ht (fun k e => by rw [show k = w.heap.size + 1 + 1 + 1 from e]; omega)))
  have hix2 := idxH_at (show 0 ≤ idxH S.heaps nm by rw [HIX.out]; omega)
  obtain ⟨i, x, hm1, hm2, hm3, _⟩ := hix2
  obtain rfl : ix = (i : Int) := by rw [← HIX.out, hm1]
  have HXH := Lib.hid (hepAt_of hm1 hm3)
  have HX := Lib.hid hm3
  have HXM := Lib.hid (List.mem_of_getElem? hm3)
  have HXO := Lib.hid (heap_ok HE.out HFIT.out (List.mem_of_getElem? hm3))
  have HIL := Lib.hid hm2
  have HNI := Lib.hid (show ¬ idxH S.heaps nm < 0 by rw [HIX.out]; exact h3)
  have hi0 : (0 : Int) ≤ (i : Int) := Int.natCast_nonneg _
  have hi1 : (i : Int) < (S.heaps.length : Int) := by omega
  clear hm1 hm2 hm3 h3
  obtain ⟨g, hg, hgb, hcap, hcx, hcs, _⟩ := HS2.out.heapAt HX.out
  have HG := Lib.hid hg
  have HGB := Lib.hid (show base ≤ g ∧ g < w.heap.size from own_geq HS.out.heaps (k := g) (by rw [hg]; rfl))
  have v0 : w2.cell? ⟨g, i * 7, none⟩ = some (.string x.name) := hcs 0 _ rfl
  have v1 : w2.cell? ⟨g, i * 7 + 1, none⟩ = some (.int .i64 x.crop) := hcs 1 _ rfl
  have v2 : w2.cell? ⟨g, i * 7 + 2, none⟩ = some (.int .i64 x.stage) := hcs 2 _ rfl
  have v3 : w2.cell? ⟨g, i * 7 + 3, none⟩ = some (.slice x.pa x.parts.length x.pc) := hcs 3 _ rfl
  have v4 : w2.cell? ⟨g, i * 7 + 4, none⟩ = some (.int .i64 x.per) := hcs 4 _ rfl
  have v5 : w2.cell? ⟨g, i * 7 + 5, none⟩ = some (.int .i64 x.wlo) := hcs 5 _ rfl
  have v6 : w2.cell? ⟨g, i * 7 + 6, none⟩ = some (.int .i64 x.whi) := hcs 6 _ rfl
  have lg := hgb.2
  rw [hg] at d3
  have kX := Blk.new w2 53 #[.string x.name, .int .i64 x.crop, .int .i64 x.stage, .slice x.pa x.parts.length x.pc, .int .i64 x.per, .int .i64 x.wlo, .int .i64 x.whi]
  have hb3 : Below w2.heap.size w2 (w2.alloc (.cells #[.string x.name, .int .i64 x.crop, .int .i64 x.stage, .slice x.pa x.parts.length x.pc, .int .i64 x.per, .int .i64 x.wlo, .int .i64 x.whi] 53)) := (Below.refl _ w2).alloc (Nat.le_refl _) _
  clear hg hcs hgb
  go_upto_region 13 with fail
  clear v0 v1 v2 v3 v4 v5 v6 lg hcap hcx
  clear f0 f1 fl d0 d1 d2 d3 d4 d5 dl c0 c1 c2 c3 c4 c5 c6 c7 c8 cl
  have KF3 := Lib.hid (KF2.out.belowS hb3)
  have KS3 := Lib.hid (KS2.out.belowS hb3)
  have KA3 := Lib.hid (KA2.out.belowS hb3)
  have KR3 := Lib.hid (KR2.out.belowS hb3)
  have HB3 := Lib.hid (HB2.out.trans (Turn.of_below hb3))
  have HSZ3 := Lib.hid (Nat.le_trans HSZ2.out hb3.size)
  have HWZ3 := Lib.hid (Nat.le_trans HWZ2.out hb3.size)
  have HS3 := Lib.hid (HS2.out.below hb3)
  generalize w2.alloc (.cells #[.string x.name, .int .i64 x.crop, .int .i64 x.stage, .slice x.pa x.parts.length x.pc, .int .i64 x.per, .int .i64 x.wlo, .int .i64 x.whi] 53) = w3 at *
  have HBH0 := Lib.hid HWZ2.out
  obtain ⟨bh, hbh⟩ : ∃ bh, bh = w2.heap.size := ⟨_, rfl⟩
  rw [← hbh] at kX HBH0 ⊢
  clear hbh hb3 KF2 KS2 KA2 KR2 HS2
  have KH3 := Lib.hid kX
  clear kX
  obtain ⟨f0, f1⟩ := frm_cells KF3.out
  have fl := KF3.out.lt
  obtain ⟨d0, d1, d2, d3, d4, d5⟩ := sto_cells (S := S) KS3.out
  have dl := KS3.out.lt
  obtain ⟨c0, c1, c2, c3, c4, c5, c6, c7, c8⟩ := chr_cells KA3.out
  have cl := KA3.out.lt
  obtain ⟨x0, x1, x2, x3, x4, x5, x6⟩ := hepB_cells KH3.out
  have xl := KH3.out.lt
  go_wp2_with fail
  refine (refBound_any base F S ⟨6, pl, ld, nm, ot, dy, pr, rl, rh⟩ i x _ HS3.out HSZ3.out HE.out HFIT.out HIX.out HX.out HNO.out).mono ?_
  rintro e w4 ⟨⟨T, rfl, hT⟩, hb⟩
  clear f0 f1 fl d0 d1 d2 d3 d4 d5 dl c0 c1 c2 c3 c4 c5 c6 c7 c8 cl x0 x1 x2 x3 x4 x5 x6 xl
  have HD := Lib.hid (show MadeIf base S (bindD F S ⟨6, pl, ld, nm, ot, dy, pr, rl, rh⟩) w3 w4 T from hT)
  have KR4 := Lib.hid (hb.blk KR3.out (fun e => by have := (HS.out.hot e).2; omega))
  have HB4 := Lib.hid (HB3.out.trans hb)
  clear hT hb
  obtain ⟨ee, hee⟩ : ∃ ee, (bindD F S ⟨6, pl, ld, nm, ot, dy, pr, rl, rh⟩).1 = ee := ⟨_, rfl⟩
  rw [hee]
  have HEE := Lib.hid hee
  clear hee
  unfold stoV
  obtain ⟨rr0, rr1, rr2, rr3, rr4, rr5⟩ := zero_cells KR4.out
  have rrl := KR4.out.lt
  have rrz0 := KR4.out.frozen 0
  have rrz1 := KR4.out.frozen 1
  have rrz2 := KR4.out.frozen 2
  have rrz3 := KR4.out.frozen 3
  have rrz4 := KR4.out.frozen 4
  have rrz5 := KR4.out.frozen 5
  go_wp2_with fail
  refine put_end T KR4.out (Φ := bodyPost _ _ _ _ _) (fun wf ht kf => ?_)
  obtain ⟨g0, g1, g2, g3, g4, g5⟩ := sto_cells (S := T) kf
  refine bodyPost_ret (v := .tuple #[.agg #[.int .i64 T.year, .slice T.la T.last.length T.lc, .slice T.ga T.given.length T.gc, .slice T.ha T.heaps.length T.hc, .slice T.ua T.used.length T.uc, .slice T.wa T.waste.length T.wc], .int .i64 ee]) (by simp [results, Tryz.results23, go_sem, g0, g1, g2, g3, g4, g5]) rfl ⟨⟨T, by rw [HEE.out], fun h0 => ?_⟩, HB4.out.far ht (fun k e => by rw [show k = w.heap.size + 1 + 1 + 1 from e]; omega)⟩
  obtain ⟨h1, h2, h3⟩ := HD.out h0
  have hz := HWZ3.out
  exact ⟨h1.turnAt ht (h3 _ (by omega) (HS.out.off (.inl (by omega)))), h2, fun B hB ho => h3 B (by omega) ho⟩
end
end Go.Proofs.YtfhalmlpnoepcaaGreat
namespace Go.Proofs.YtfhalmlpnoepcaaGreat
section
set_option linter.unusedSimpArgs false
open Go.RowKit

theorem cutT_okN {m : Nat} {l : List Prt} (h : ∀ p ∈ l, p.ok m) : ∀ {n : Int}, ∀ p ∈ cutT n l, p.ok m := by
  induction l with
  | nil => intro n p hp; simp [cutT] at hp
  | cons q l ih =>
    intro n p hp
    simp only [cutT] at hp
    obtain ⟨h1, h2, h3⟩ := h q (by simp)
    rcases List.mem_append.1 hp with hp | hp
    · split at hp
      · next e =>
        obtain rfl := List.mem_singleton.1 hp
        exact ⟨h1, e, by show min n q.loads ≤ 100000; omega⟩
      · simp at hp
    · exact ih (fun r hr => h r (by simp [hr])) p hp

set_option maxRecDepth 100000 in
set_option maxHeartbeats 32000000 in
theorem refDone8_any (base : Nat) (F : Frm) (S : Sto) (pl ld : Int) (nm ot : ByteArray) (dy pr rl rh : Int) (w : World) (hF : ∀ w', Below base w w' → IsFarm w' F) (hS : Rst base w S) (hbase : base ≤ w.heap.size) (hE : storeE F S = 0) (hfit : S.fit) (hnm : nm.size ≤ maxLen) (hno : ot.size ≤ maxLen) :
    Calls Tryz.prog 23 #[.agg #[.slice F.pa F.ps.length F.pc, .int .i64 F.dry], .agg #[.int .i64 S.year, .slice S.la S.last.length S.lc, .slice S.ga S.given.length S.gc, .slice S.ha S.heaps.length S.hc, .slice S.ua S.used.length S.uc, .slice S.wa S.waste.length S.wc], .agg #[.int .i64 8, .int .i64 pl, .int .i64 ld, .string nm, .string ot, .int .i64 dy, .int .i64 pr, .int .i64 rl, .int .i64 rh]] w (ChMade base S (rotD F S ⟨8, pl, ld, nm, ot, dy, pr, rl, rh⟩) w) := by
  have HF := Lib.hid (show FarmAt base w F from hF)
  have HS := Lib.hid hS
  have HBASE := Lib.hid hbase
  have HE := Lib.hid hE
  have HFIT := Lib.hid hfit
  have HNM := Lib.hid hnm
  have HNO := Lib.hid hno
  have HUO := Lib.hid (show (∀ p ∈ S.used, p.ok F.ps.length) ∧ (∀ p ∈ S.waste, p.ok F.ps.length) from ⟨partsB_ok (store_ok hE).2.2.1, partsB_ok (store_ok hE).2.2.2.1⟩)
  have HYR := Lib.hid (years_ok hE).1
  clear hF hS hbase hE hfit hnm hno
  go_enter Tryz.func23, Tryz.ntmps23
  go_upto_region 1 with fail
  generalize hw1 : ((((w.alloc (.cells #[.slice F.pa F.ps.length F.pc, .int .i64 F.dry] 24)).alloc (.cells #[.int .i64 S.year, .slice S.la S.last.length S.lc, .slice S.ga S.given.length S.gc, .slice S.ha S.heaps.length S.hc, .slice S.ua S.used.length S.uc, .slice S.wa S.waste.length S.wc] 29)).alloc (.cells #[.int .i64 8, .int .i64 pl, .int .i64 ld, .string nm, .string ot, .int .i64 dy, .int .i64 pr, .int .i64 rl, .int .i64 rh] 34)).alloc (.cells #[.int .i64 0, .slice none 0 0, .slice none 0 0, .slice none 0 0, .slice none 0 0, .slice none 0 0] 29)) = w1
  obtain ⟨k1, k2, k3, k4, hb1⟩ := four_boxes w F S 8 pl ld nm ot dy pr rl rh _ _ _ w1 hw1.symm
  clear hw1
  have HB1 := Lib.hid (show Turn (Hot S) w w1 from Turn.of_below hb1)
  have HSZ1 := Lib.hid (Nat.le_trans HBASE.out hb1.size)
  have HWZ1 := Lib.hid (show w.heap.size + 4 ≤ w1.heap.size from k4.lt)
  have KF1 := Lib.hid k1
  have KS1 := Lib.hid k2
  have KA1 := Lib.hid k3
  have KR1 := Lib.hid k4
  have HS1 := Lib.hid (HS.out.below hb1)
  clear k1 k2 k3 k4 hb1
  obtain ⟨f0, f1⟩ := frm_cells KF1.out
  have fl := KF1.out.lt
  obtain ⟨d0, d1, d2, d3, d4, d5⟩ := sto_cells (S := S) KS1.out
  have dl := KS1.out.lt
  obtain ⟨c0, c1, c2, c3, c4, c5, c6, c7, c8⟩ := chr_cells KA1.out
  have cl := KA1.out.lt
  go_wp2_with fail
  refine (refAt_any S nm _ (HS1.out.store.heaps)).mono ?_
  rintro e w2 ⟨rfl, hb⟩
  clear f0 f1 fl d0 d1 d2 d3 d4 d5 dl c0 c1 c2 c3 c4 c5 c6 c7 c8 cl
  have KF2 := Lib.hid (KF1.out.belowS hb)
  have KS2 := Lib.hid (KS1.out.belowS hb)
  have KA2 := Lib.hid (KA1.out.belowS hb)
  have KR2 := Lib.hid (KR1.out.belowS hb)
  have HB2 := Lib.hid (HB1.out.trans (Turn.of_below hb))
  have HSZ2 := Lib.hid (Nat.le_trans HSZ1.out hb.size)
  have HWZ2 := Lib.hid (Nat.le_trans HWZ1.out hb.size)
  have HS2 := Lib.hid (HS1.out.below hb)
  clear hb KF1 KS1 KA1 KR1 HS1
  obtain ⟨ix, hix⟩ : ∃ ix, idxH S.heaps nm = ix := ⟨_, rfl⟩
  have HIX := Lib.hid hix
  rw [hix]
  clear hix
  obtain ⟨f0, f1⟩ := frm_cells KF2.out
  have fl := KF2.out.lt
  obtain ⟨d0, d1, d2, d3, d4, d5⟩ := sto_cells (S := S) KS2.out
  have dl := KS2.out.lt
  obtain ⟨c0, c1, c2, c3, c4, c5, c6, c7, c8⟩ := chr_cells KA2.out
  have cl := KA2.out.lt
  by_cases h3 : ix < 0
  · have HV := Lib.hid (show (rotD F S ⟨8, pl, ld, nm, ot, dy, pr, rl, rh⟩).1 = 7 by unfold rotD; rw [if_pos (by dsimp only; rw [HIX.out]; exact h3)])
    obtain ⟨rr0, rr1, rr2, rr3, rr4, rr5⟩ := zero_cells KR2.out
    have rrl := KR2.out.lt
    have rrz0 := KR2.out.frozen 0
    have rrz1 := KR2.out.frozen 1
    have rrz2 := KR2.out.frozen 2
    have rrz3 := KR2.out.frozen 3
    have rrz4 := KR2.out.frozen 4
    have rrz5 := KR2.out.frozen 5
    go_wp2_with fail
    refine put_end S KR2.out (Φ := bodyPost _ _ _ _ _) (fun wf ht kf => ?_)
    obtain ⟨g0, g1, g2, g3, g4, g5⟩ := sto_cells (S := S) kf
    exact bodyPost_ret (v := .tuple #[.agg #[.int .i64 S.year, .slice S.la S.last.length S.lc, .slice S.ga S.given.length S.gc, .slice S.ha S.heaps.length S.hc, .slice S.ua S.used.length S.uc, .slice S.wa S.waste.length S.wc], .int .i64 7]) (by simp [results, Tryz.results23, go_sem, g0, g1, g2, g3, g4, g5]) rfl (ChMade.err S HV.out (by decide) (HB2.out.far ht (fun k e => by rw [show k = w.heap.size + 1 + 1 + 1 from e]; omega)))
  have hix2 := idxH_at (show 0 ≤ idxH S.heaps nm by rw [HIX.out]; omega)
  obtain ⟨i, x, hm1, hm2, hm3, _⟩ := hix2
  obtain rfl : ix = (i : Int) := by rw [← HIX.out, hm1]
  have HXH := Lib.hid (hepAt_of hm1 hm3)
  have HX := Lib.hid hm3
  have HXM := Lib.hid (List.mem_of_getElem? hm3)
  have HXO := Lib.hid (heap_ok HE.out HFIT.out (List.mem_of_getElem? hm3))
  have HIL := Lib.hid hm2
  have HNI := Lib.hid (show ¬ idxH S.heaps nm < 0 by rw [HIX.out]; exact h3)
  have hi0 : (0 : Int) ≤ (i : Int) := Int.natCast_nonneg _
  have hi1 : (i : Int) < (S.heaps.length : Int) := by omega
  clear hm1 hm2 hm3 h3
  obtain ⟨g, hg, hgb, hcap, hcx, hcs, _⟩ := HS2.out.heapAt HX.out
  have HG := Lib.hid hg
  have HGB := Lib.hid (show base ≤ g ∧ g < w.heap.size from own_geq HS.out.heaps (k := g) (by rw [hg]; rfl))
  have v0 : w2.cell? ⟨g, i * 7, none⟩ = some (.string x.name) := hcs 0 _ rfl
  have v1 : w2.cell? ⟨g, i * 7 + 1, none⟩ = some (.int .i64 x.crop) := hcs 1 _ rfl
  have v2 : w2.cell? ⟨g, i * 7 + 2, none⟩ = some (.int .i64 x.stage) := hcs 2 _ rfl
  have v3 : w2.cell? ⟨g, i * 7 + 3, none⟩ = some (.slice x.pa x.parts.length x.pc) := hcs 3 _ rfl
  have v4 : w2.cell? ⟨g, i * 7 + 4, none⟩ = some (.int .i64 x.per) := hcs 4 _ rfl
  have v5 : w2.cell? ⟨g, i * 7 + 5, none⟩ = some (.int .i64 x.wlo) := hcs 5 _ rfl
  have v6 : w2.cell? ⟨g, i * 7 + 6, none⟩ = some (.int .i64 x.whi) := hcs 6 _ rfl
  have lg := hgb.2
  rw [hg] at d3
  have kX := Blk.new w2 53 #[.string x.name, .int .i64 x.crop, .int .i64 x.stage, .slice x.pa x.parts.length x.pc, .int .i64 x.per, .int .i64 x.wlo, .int .i64 x.whi]
  have hb3 : Below w2.heap.size w2 (w2.alloc (.cells #[.string x.name, .int .i64 x.crop, .int .i64 x.stage, .slice x.pa x.parts.length x.pc, .int .i64 x.per, .int .i64 x.wlo, .int .i64 x.whi] 53)) := (Below.refl _ w2).alloc (Nat.le_refl _) _
  clear hg hcs hgb
  go_upto_region 13 with fail
  clear v0 v1 v2 v3 v4 v5 v6 lg hcap hcx
  clear f0 f1 fl d0 d1 d2 d3 d4 d5 dl c0 c1 c2 c3 c4 c5 c6 c7 c8 cl
  have KF3 := Lib.hid (KF2.out.belowS hb3)
  have KS3 := Lib.hid (KS2.out.belowS hb3)
  have KA3 := Lib.hid (KA2.out.belowS hb3)
  have KR3 := Lib.hid (KR2.out.belowS hb3)
  have HB3 := Lib.hid (HB2.out.trans (Turn.of_below hb3))
  have HSZ3 := Lib.hid (Nat.le_trans HSZ2.out hb3.size)
  have HWZ3 := Lib.hid (Nat.le_trans HWZ2.out hb3.size)
  have HS3 := Lib.hid (HS2.out.below hb3)
  generalize w2.alloc (.cells #[.string x.name, .int .i64 x.crop, .int .i64 x.stage, .slice x.pa x.parts.length x.pc, .int .i64 x.per, .int .i64 x.wlo, .int .i64 x.whi] 53) = w3 at *
  have HBH0 := Lib.hid HWZ2.out
  obtain ⟨bh, hbh⟩ : ∃ bh, bh = w2.heap.size := ⟨_, rfl⟩
  rw [← hbh] at kX HBH0 ⊢
  clear hbh hb3 KF2 KS2 KA2 KR2 HS2
  have KH3 := Lib.hid kX
  clear kX
  obtain ⟨f0, f1⟩ := frm_cells KF3.out
  have fl := KF3.out.lt
  obtain ⟨d0, d1, d2, d3, d4, d5⟩ := sto_cells (S := S) KS3.out
  have dl := KS3.out.lt
  obtain ⟨c0, c1, c2, c3, c4, c5, c6, c7, c8⟩ := chr_cells KA3.out
  have cl := KA3.out.lt
  obtain ⟨x0, x1, x2, x3, x4, x5, x6⟩ := hepB_cells KH3.out
  have xl := KH3.out.lt
  by_cases h4 : x.whi ≤ F.dry
  · have q4 : decide (x.whi ≤ F.dry) = true := decide_eq_true h4
    have HV := Lib.hid (show (rotD F S ⟨8, pl, ld, nm, ot, dy, pr, rl, rh⟩).1 = 8 by unfold rotD; dsimp only; rw [if_neg (by rw [HIX.out]; omega), if_pos (by rw [HXH.out]; exact h4)])
    clear h4
    obtain ⟨rr0, rr1, rr2, rr3, rr4, rr5⟩ := zero_cells KR3.out
    have rrl := KR3.out.lt
    have rrz0 := KR3.out.frozen 0
    have rrz1 := KR3.out.frozen 1
    have rrz2 := KR3.out.frozen 2
    have rrz3 := KR3.out.frozen 3
    have rrz4 := KR3.out.frozen 4
    have rrz5 := KR3.out.frozen 5
    go_wp2_with fail
    refine put_end S KR3.out (Φ := bodyPost _ _ _ _ _) (fun wf ht kf => ?_)
    obtain ⟨g0, g1, g2, g3, g4, g5⟩ := sto_cells (S := S) kf
    exact bodyPost_ret (v := .tuple #[.agg #[.int .i64 S.year, .slice S.la S.last.length S.lc, .slice S.ga S.given.length S.gc, .slice S.ha S.heaps.length S.hc, .slice S.ua S.used.length S.uc, .slice S.wa S.waste.length S.wc], .int .i64 8]) (by simp [results, Tryz.results23, go_sem, g0, g1, g2, g3, g4, g5]) rfl (ChMade.err S HV.out (by decide) (HB3.out.far ht (fun k e => by rw [show k = w.heap.size + 1 + 1 + 1 from e]; omega)))
  have q4 : decide (x.whi ≤ F.dry) = false := decide_eq_false h4
  have H4 := Lib.hid h4
  clear h4
  go_upto_region 43 with fail
  clear q4
  go_wp2_with fail
  refine (refJoined_any S.wa x.pa S.wc x.pc S.waste x.parts _ (HS3.out.waste.1) ((HS3.out.parts x HXM.out).1.1) (fun p hp => by have := (HUO.out.2 p hp).2; omega) (fun p hp => (HXO.out.1 p hp).2) (by have := HFIT.out.waste; omega) (by have := HXO.out.2.2.1; omega)).mono ?_
  rintro e w4 ⟨⟨aw, nw, rfl, hN⟩, hb⟩
  clear f0 f1 fl d0 d1 d2 d3 d4 d5 dl c0 c1 c2 c3 c4 c5 c6 c7 c8 cl x0 x1 x2 x3 x4 x5 x6 xl
  have KF4 := Lib.hid (KF3.out.belowS hb)
  have KS4 := Lib.hid (KS3.out.belowS hb)
  have KA4 := Lib.hid (KA3.out.belowS hb)
  have KR4 := Lib.hid (KR3.out.belowS hb)
  have KH4 := Lib.hid (KH3.out.belowS hb)
  have HB4 := Lib.hid (HB3.out.trans (Turn.of_below hb))
  have HSZ4 := Lib.hid (Nat.le_trans HSZ3.out hb.size)
  have HWZ4 := Lib.hid (Nat.le_trans HWZ3.out hb.size)
  have HS4 := Lib.hid (HS3.out.below hb)
  have HN4 := Lib.hid (show NewP w3 w4 aw nw (putL S.waste x.parts) from hN)
  have HC4 := Lib.hid (show Cool base w4 S aw from HS3.out.cool HSZ3.out hN.2)
  obtain ⟨P, hPP⟩ : ∃ P, putL S.waste x.parts = P := ⟨_, rfl⟩
  rw [hPP] at HN4 ⊢
  have HPP := Lib.hid hPP
  clear hb hN hPP KF3 KS3 KA3 KR3 KH3 HS3
  obtain ⟨f0, f1⟩ := frm_cells KF4.out
  have fl := KF4.out.lt
  obtain ⟨d0, d1, d2, d3, d4, d5⟩ := sto_cells (S := S) KS4.out
  have dl := KS4.out.lt
  obtain ⟨c0, c1, c2, c3, c4, c5, c6, c7, c8⟩ := chr_cells KA4.out
  have cl := KA4.out.lt
  obtain ⟨x0, x1, x2, x3, x4, x5, x6⟩ := hepB_cells KH4.out
  have xl := KH4.out.lt
  have dz := KS4.out.frozen 5
  go_upto_region 44 with fail
  have kf : Blk (w4.setCell ⟨w.heap.size + 1, 5, none⟩ (.slice aw P.length nw)) (w.heap.size + 1) #[.int .i64 S.year, .slice S.la S.last.length S.lc, .slice S.ga S.given.length S.gc, .slice S.ha S.heaps.length S.hc, .slice S.ua S.used.length S.uc, .slice aw P.length nw] 29 := KS4.out.set 5 _
  have ht : Turn (fun k => k = w.heap.size + 1) w4 (w4.setCell ⟨w.heap.size + 1, 5, none⟩ (.slice aw P.length nw)) := (Turn.of_below (X := fun k => k = w.heap.size + 1) (Below.refl _ w4)).setCell (B := w.heap.size + 1) rfl 5 _
  generalize (w4.setCell ⟨w.heap.size + 1, 5, none⟩ (.slice aw P.length nw)) = w5 at *
  clear f0 f1 fl d0 d1 d2 d3 d4 d5 dl c0 c1 c2 c3 c4 c5 c6 c7 c8 cl x0 x1 x2 x3 x4 x5 x6 xl
  clear dz
  have KS5 := Lib.hid kf
  have KF5 := Lib.hid (ht.blk KF4.out (fun e => by have := (show w.heap.size = w.heap.size + 1 from e); omega))
  have KA5 := Lib.hid (ht.blk KA4.out (fun e => by have := (show w.heap.size + 1 + 1 = w.heap.size + 1 from e); omega))
  have KR5 := Lib.hid (ht.blk KR4.out (fun e => by have := (show w.heap.size + 1 + 1 + 1 = w.heap.size + 1 from e); omega))
  have KH5 := Lib.hid (ht.blk KH4.out (fun e => by have := (show bh = w.heap.size + 1 from e); have := HBH0.out; omega))
  have HB5 := Lib.hid (HB4.out.far ht (fun k e => by rw [show k = w.heap.size + 1 from e]; omega))
  have HSZ5 := Lib.hid (Nat.le_trans HSZ4.out ht.size)
  have HWZ5 := Lib.hid (Nat.le_trans HWZ4.out ht.size)
  have HS5 := Lib.hid ((HS4.out.turnAt ht (HS.out.off (.inl (by omega)))).setWaste (a := aw) (c := nw) (l := P) (HN4.out.1.turn ht (fun k e e2 => by have := (HN4.out.2 k e).1; have := HWZ3.out; have := (show k = w.heap.size + 1 from e2); omega)) (HC4.out.mono ht.size))
  have HFA := Lib.hid (show FromN (w.heap.size + 4) aw from fun k e => by have := (HN4.out.2 k e).1; have := HWZ3.out; omega)
  clear kf ht KF4 KS4 KA4 KR4 KH4 HS4
  obtain ⟨d0, d1, d2, d3, d4, d5⟩ := (show w5.cell? ⟨w.heap.size + 1, 0, none⟩ = some (.int .i64 S.year) ∧ w5.cell? ⟨w.heap.size + 1, 1, none⟩ = some (.slice S.la S.last.length S.lc) ∧ w5.cell? ⟨w.heap.size + 1, 2, none⟩ = some (.slice S.ga S.given.length S.gc) ∧ w5.cell? ⟨w.heap.size + 1, 3, none⟩ = some (.slice S.ha S.heaps.length S.hc) ∧ w5.cell? ⟨w.heap.size + 1, 4, none⟩ = some (.slice S.ua S.used.length S.uc) ∧ w5.cell? ⟨w.heap.size + 1, 5, none⟩ = some (.slice aw P.length nw) from ⟨KS5.out.cell 0, KS5.out.cell 1, KS5.out.cell 2, KS5.out.cell 3, KS5.out.cell 4, KS5.out.cell 5⟩)
  have dl := KS5.out.lt
  go_wp2_with fail
  refine (show Calls Tryz.prog 52 #[.agg #[.int .i64 S.year, .slice S.la S.last.length S.lc, .slice S.ga S.given.length S.gc, .slice S.ha S.heaps.length S.hc, .slice S.ua S.used.length S.uc, .slice aw P.length nw], .int .i64 (i : Int)] w5 _ from refWithout_any base { S with wa := aw, wc := nw, waste := P } i w5 HS5.out HSZ5.out HIL.out HFIT.out.heaps).mono ?_
  rintro e w6 ⟨⟨a2, n2, rfl, hT, hfr⟩, hb⟩
  clear d0 d1 d2 d3 d4 d5 dl
  have HS6 := Lib.hid hT
  have HFR := Lib.hid hfr
  have KR6 := Lib.hid (KR5.out.belowS hb)
  have HB6 := Lib.hid (HB5.out.trans (Turn.of_below hb))
  have HSZ6 := Lib.hid (Nat.le_trans HSZ5.out hb.size)
  have HWZ6 := Lib.hid (Nat.le_trans HWZ5.out hb.size)
  clear hT hfr hb KS5 KR5
  unfold stoV
  dsimp only
  have HEI := Lib.hid (show ∀ z ∈ S.heaps.eraseIdx i, z ∈ S.heaps from fun z hz => List.mem_of_mem_eraseIdx hz)
  have HV := Lib.hid (show (rotD F S ⟨8, pl, ld, nm, ot, dy, pr, rl, rh⟩) = (0, { S with waste := P, heaps := S.heaps.eraseIdx i }) by
    have h1 : ∀ p ∈ x.parts, 1 ≤ p.loads := fun p hp => (HXO.out.1 p hp).2.1
    have h2 : moveH S.heaps i (loadsM x.parts) = S.heaps.eraseIdx i := by
      unfold moveH
      rw [HX.out]
      dsimp only
      rw [if_pos ((rest_nil h1 HXO.out.2.2.2.1.1 (Int.le_refl _)).2 rfl)]
    unfold rotD
    dsimp only
    rw [if_neg (by rw [HIX.out]; omega), if_neg (by rw [HXH.out]; have := H4.out; omega), HXH.out, HIX.out, Int.toNat_natCast, cutT_all h1 (Int.le_refl _), HPP.out, h2])
  generalize S.heaps.eraseIdx i = H at *
  obtain ⟨rr0, rr1, rr2, rr3, rr4, rr5⟩ := zero_cells KR6.out
  have rrl := KR6.out.lt
  have rrz0 := KR6.out.frozen 0
  have rrz1 := KR6.out.frozen 1
  have rrz2 := KR6.out.frozen 2
  have rrz3 := KR6.out.frozen 3
  have rrz4 := KR6.out.frozen 4
  have rrz5 := KR6.out.frozen 5
  go_wp2_with fail
  have kf : Blk ((((((w6.setCell ⟨w.heap.size + 1 + 1 + 1, 0, none⟩ (.int .i64 S.year)).setCell ⟨w.heap.size + 1 + 1 + 1, 1, none⟩ (.slice S.la S.last.length S.lc)).setCell ⟨w.heap.size + 1 + 1 + 1, 2, none⟩ (.slice S.ga S.given.length S.gc)).setCell ⟨w.heap.size + 1 + 1 + 1, 3, none⟩ (.slice a2 H.length n2)).setCell ⟨w.heap.size + 1 + 1 + 1, 4, none⟩ (.slice S.ua S.used.length S.uc)).setCell ⟨w.heap.size + 1 + 1 + 1, 5, none⟩ (.slice aw P.length nw)) (w.heap.size + 1 + 1 + 1) #[.int .i64 S.year, .slice S.la S.last.length S.lc, .slice S.ga S.given.length S.gc, .slice a2 H.length n2, .slice S.ua S.used.length S.uc, .slice aw P.length nw] 29 := ((((((KR6.out.set 0 (.int .i64 S.year)).set 1 (.slice S.la S.last.length S.lc)).set 2 (.slice S.ga S.given.length S.gc)).set 3 (.slice a2 H.length n2)).set 4 (.slice S.ua S.used.length S.uc)).set 5 (.slice aw P.length nw))
  have ht : Turn (fun k => k = w.heap.size + 1 + 1 + 1) w6 ((((((w6.setCell ⟨w.heap.size + 1 + 1 + 1, 0, none⟩ (.int .i64 S.year)).setCell ⟨w.heap.size + 1 + 1 + 1, 1, none⟩ (.slice S.la S.last.length S.lc)).setCell ⟨w.heap.size + 1 + 1 + 1, 2, none⟩ (.slice S.ga S.given.length S.gc)).setCell ⟨w.heap.size + 1 + 1 + 1, 3, none⟩ (.slice a2 H.length n2)).setCell ⟨w.heap.size + 1 + 1 + 1, 4, none⟩ (.slice S.ua S.used.length S.uc)).setCell ⟨w.heap.size + 1 + 1 + 1, 5, none⟩ (.slice aw P.length nw)) := (((((((Turn.of_below (X := fun k => k = w.heap.size + 1 + 1 + 1) (Below.refl _ w6)).setCell (B := w.heap.size + 1 + 1 + 1) rfl 0 (.int .i64 S.year)).setCell (B := w.heap.size + 1 + 1 + 1) rfl 1 (.slice S.la S.last.length S.lc)).setCell (B := w.heap.size + 1 + 1 + 1) rfl 2 (.slice S.ga S.given.length S.gc)).setCell (B := w.heap.size + 1 + 1 + 1) rfl 3 (.slice a2 H.length n2)).setCell (B := w.heap.size + 1 + 1 + 1) rfl 4 (.slice S.ua S.used.length S.uc)).setCell (B := w.heap.size + 1 + 1 + 1) rfl 5 (.slice aw P.length nw))
  generalize ((((((w6.setCell ⟨w.heap.size + 1 + 1 + 1, 0, none⟩ (.int .i64 S.year)).setCell ⟨w.heap.size + 1 + 1 + 1, 1, none⟩ (.slice S.la S.last.length S.lc)).setCell ⟨w.heap.size + 1 + 1 + 1, 2, none⟩ (.slice S.ga S.given.length S.gc)).setCell ⟨w.heap.size + 1 + 1 + 1, 3, none⟩ (.slice a2 H.length n2)).setCell ⟨w.heap.size + 1 + 1 + 1, 4, none⟩ (.slice S.ua S.used.length S.uc)).setCell ⟨w.heap.size + 1 + 1 + 1, 5, none⟩ (.slice aw P.length nw)) = wf at *
  obtain ⟨g0, g1, g2, g3, g4, g5⟩ := (show wf.cell? ⟨w.heap.size + 1 + 1 + 1, 0, none⟩ = some (.int .i64 S.year) ∧ wf.cell? ⟨w.heap.size + 1 + 1 + 1, 1, none⟩ = some (.slice S.la S.last.length S.lc) ∧ wf.cell? ⟨w.heap.size + 1 + 1 + 1, 2, none⟩ = some (.slice S.ga S.given.length S.gc) ∧ wf.cell? ⟨w.heap.size + 1 + 1 + 1, 3, none⟩ = some (.slice a2 H.length n2) ∧ wf.cell? ⟨w.heap.size + 1 + 1 + 1, 4, none⟩ = some (.slice S.ua S.used.length S.uc) ∧ wf.cell? ⟨w.heap.size + 1 + 1 + 1, 5, none⟩ = some (.slice aw P.length nw) from ⟨kf.cell 0, kf.cell 1, kf.cell 2, kf.cell 3, kf.cell 4, kf.cell 5⟩)
  have hoff : OffTo (w.heap.size + 4) S { S with wa := aw, wc := nw, waste := P, ha := a2, hc := n2, heaps := H } := fun B hB ho => ⟨ho.la, ho.ga, fun e => by have := HFR.out B e; have := HWZ5.out; omega, ho.ua, fun e => by have := HFA.out B e; omega, fun z hz => ho.pa z (HEI.out z hz)⟩
  refine bodyPost_ret (v := .tuple #[.agg #[.int .i64 S.year, .slice S.la S.last.length S.lc, .slice S.ga S.given.length S.gc, .slice a2 H.length n2, .slice S.ua S.used.length S.uc, .slice aw P.length nw], .int .i64 0]) (by simp [results, Tryz.results23, go_sem, g0, g1, g2, g3, g4, g5]) rfl ⟨⟨{ S with wa := aw, wc := nw, waste := P, ha := a2, hc := n2, heaps := H }, by rw [HV.out], fun _ => ⟨(HS6.out).turnAt ht (hoff _ (by omega) (HS.out.off (.inl (by omega)))), ?_, fun B hB ho => hoff B (by omega) ho⟩⟩, HB6.out.far ht (fun k e => by rw [show k = w.heap.size + 1 + 1 + 1 from e]; omega)⟩
  rw [HV.out]
  exact ⟨rfl, rfl, rfl, rfl, rfl, rfl, fun j u v hu hv => by cases hu.symm.trans hv; exact SameHep.refl _⟩

set_option maxRecDepth 100000 in
set_option maxHeartbeats 32000000 in
theorem refDone7_any (base : Nat) (F : Frm) (S : Sto) (pl ld : Int) (nm ot : ByteArray) (dy pr rl rh : Int) (w : World) (hF : ∀ w', Below base w w' → IsFarm w' F) (hS : Rst base w S) (hbase : base ≤ w.heap.size) (hE : storeE F S = 0) (hfit : S.fit) (hnm : nm.size ≤ maxLen) (hno : ot.size ≤ maxLen) :
    Calls Tryz.prog 23 #[.agg #[.slice F.pa F.ps.length F.pc, .int .i64 F.dry], .agg #[.int .i64 S.year, .slice S.la S.last.length S.lc, .slice S.ga S.given.length S.gc, .slice S.ha S.heaps.length S.hc, .slice S.ua S.used.length S.uc, .slice S.wa S.waste.length S.wc], .agg #[.int .i64 7, .int .i64 pl, .int .i64 ld, .string nm, .string ot, .int .i64 dy, .int .i64 pr, .int .i64 rl, .int .i64 rh]] w (ChMade base S (useD S ⟨7, pl, ld, nm, ot, dy, pr, rl, rh⟩) w) := by
  have HF := Lib.hid (show FarmAt base w F from hF)
  have HS := Lib.hid hS
  have HBASE := Lib.hid hbase
  have HE := Lib.hid hE
  have HFIT := Lib.hid hfit
  have HNM := Lib.hid hnm
  have HNO := Lib.hid hno
  have HUO := Lib.hid (show (∀ p ∈ S.used, p.ok F.ps.length) ∧ (∀ p ∈ S.waste, p.ok F.ps.length) from ⟨partsB_ok (store_ok hE).2.2.1, partsB_ok (store_ok hE).2.2.2.1⟩)
  have HYR := Lib.hid (years_ok hE).1
  clear hF hS hbase hE hfit hnm hno
  go_enter Tryz.func23, Tryz.ntmps23
  go_upto_region 1 with fail
  generalize hw1 : ((((w.alloc (.cells #[.slice F.pa F.ps.length F.pc, .int .i64 F.dry] 24)).alloc (.cells #[.int .i64 S.year, .slice S.la S.last.length S.lc, .slice S.ga S.given.length S.gc, .slice S.ha S.heaps.length S.hc, .slice S.ua S.used.length S.uc, .slice S.wa S.waste.length S.wc] 29)).alloc (.cells #[.int .i64 7, .int .i64 pl, .int .i64 ld, .string nm, .string ot, .int .i64 dy, .int .i64 pr, .int .i64 rl, .int .i64 rh] 34)).alloc (.cells #[.int .i64 0, .slice none 0 0, .slice none 0 0, .slice none 0 0, .slice none 0 0, .slice none 0 0] 29)) = w1
  obtain ⟨k1, k2, k3, k4, hb1⟩ := four_boxes w F S 7 pl ld nm ot dy pr rl rh _ _ _ w1 hw1.symm
  clear hw1
  have HB1 := Lib.hid (show Turn (Hot S) w w1 from Turn.of_below hb1)
  have HSZ1 := Lib.hid (Nat.le_trans HBASE.out hb1.size)
  have HWZ1 := Lib.hid (show w.heap.size + 4 ≤ w1.heap.size from k4.lt)
  have KF1 := Lib.hid k1
  have KS1 := Lib.hid k2
  have KA1 := Lib.hid k3
  have KR1 := Lib.hid k4
  have HS1 := Lib.hid (HS.out.below hb1)
  clear k1 k2 k3 k4 hb1
  obtain ⟨f0, f1⟩ := frm_cells KF1.out
  have fl := KF1.out.lt
  obtain ⟨d0, d1, d2, d3, d4, d5⟩ := sto_cells (S := S) KS1.out
  have dl := KS1.out.lt
  obtain ⟨c0, c1, c2, c3, c4, c5, c6, c7, c8⟩ := chr_cells KA1.out
  have cl := KA1.out.lt
  go_wp2_with fail
  refine (refAt_any S nm _ (HS1.out.store.heaps)).mono ?_
  rintro e w2 ⟨rfl, hb⟩
  clear f0 f1 fl d0 d1 d2 d3 d4 d5 dl c0 c1 c2 c3 c4 c5 c6 c7 c8 cl
  have KF2 := Lib.hid (KF1.out.belowS hb)
  have KS2 := Lib.hid (KS1.out.belowS hb)
  have KA2 := Lib.hid (KA1.out.belowS hb)
  have KR2 := Lib.hid (KR1.out.belowS hb)
  have HB2 := Lib.hid (HB1.out.trans (Turn.of_below hb))
  have HSZ2 := Lib.hid (Nat.le_trans HSZ1.out hb.size)
  have HWZ2 := Lib.hid (Nat.le_trans HWZ1.out hb.size)
  have HS2 := Lib.hid (HS1.out.below hb)
  clear hb KF1 KS1 KA1 KR1 HS1
  obtain ⟨ix, hix⟩ : ∃ ix, idxH S.heaps nm = ix := ⟨_, rfl⟩
  have HIX := Lib.hid hix
  rw [hix]
  clear hix
  obtain ⟨f0, f1⟩ := frm_cells KF2.out
  have fl := KF2.out.lt
  obtain ⟨d0, d1, d2, d3, d4, d5⟩ := sto_cells (S := S) KS2.out
  have dl := KS2.out.lt
  obtain ⟨c0, c1, c2, c3, c4, c5, c6, c7, c8⟩ := chr_cells KA2.out
  have cl := KA2.out.lt
  by_cases h3 : ix < 0
  · have HV := Lib.hid (show (useD S ⟨7, pl, ld, nm, ot, dy, pr, rl, rh⟩).1 = 7 by unfold useD; rw [if_pos (by dsimp only; rw [HIX.out]; exact h3)])
    obtain ⟨rr0, rr1, rr2, rr3, rr4, rr5⟩ := zero_cells KR2.out
    have rrl := KR2.out.lt
    have rrz0 := KR2.out.frozen 0
    have rrz1 := KR2.out.frozen 1
    have rrz2 := KR2.out.frozen 2
    have rrz3 := KR2.out.frozen 3
    have rrz4 := KR2.out.frozen 4
    have rrz5 := KR2.out.frozen 5
    go_wp2_with fail
    refine put_end S KR2.out (Φ := bodyPost _ _ _ _ _) (fun wf ht kf => ?_)
    obtain ⟨g0, g1, g2, g3, g4, g5⟩ := sto_cells (S := S) kf
    exact bodyPost_ret (v := .tuple #[.agg #[.int .i64 S.year, .slice S.la S.last.length S.lc, .slice S.ga S.given.length S.gc, .slice S.ha S.heaps.length S.hc, .slice S.ua S.used.length S.uc, .slice S.wa S.waste.length S.wc], .int .i64 7]) (by simp [results, Tryz.results23, go_sem, g0, g1, g2, g3, g4, g5]) rfl (ChMade.err S HV.out (by decide) (HB2.out.far ht (fun k e => by rw [show k = w.heap.size + 1 + 1 + 1 from e]; omega)))
  have hix2 := idxH_at (show 0 ≤ idxH S.heaps nm by rw [HIX.out]; omega)
  obtain ⟨i, x, hm1, hm2, hm3, _⟩ := hix2
  obtain rfl : ix = (i : Int) := by rw [← HIX.out, hm1]
  have HXH := Lib.hid (hepAt_of hm1 hm3)
  have HX := Lib.hid hm3
  have HXM := Lib.hid (List.mem_of_getElem? hm3)
  have HXO := Lib.hid (heap_ok HE.out HFIT.out (List.mem_of_getElem? hm3))
  have HIL := Lib.hid hm2
  have HNI := Lib.hid (show ¬ idxH S.heaps nm < 0 by rw [HIX.out]; exact h3)
  have hi0 : (0 : Int) ≤ (i : Int) := Int.natCast_nonneg _
  have hi1 : (i : Int) < (S.heaps.length : Int) := by omega
  clear hm1 hm2 hm3 h3
  obtain ⟨g, hg, hgb, hcap, hcx, hcs, _⟩ := HS2.out.heapAt HX.out
  have HG := Lib.hid hg
  have HGB := Lib.hid (show base ≤ g ∧ g < w.heap.size from own_geq HS.out.heaps (k := g) (by rw [hg]; rfl))
  have v0 : w2.cell? ⟨g, i * 7, none⟩ = some (.string x.name) := hcs 0 _ rfl
  have v1 : w2.cell? ⟨g, i * 7 + 1, none⟩ = some (.int .i64 x.crop) := hcs 1 _ rfl
  have v2 : w2.cell? ⟨g, i * 7 + 2, none⟩ = some (.int .i64 x.stage) := hcs 2 _ rfl
  have v3 : w2.cell? ⟨g, i * 7 + 3, none⟩ = some (.slice x.pa x.parts.length x.pc) := hcs 3 _ rfl
  have v4 : w2.cell? ⟨g, i * 7 + 4, none⟩ = some (.int .i64 x.per) := hcs 4 _ rfl
  have v5 : w2.cell? ⟨g, i * 7 + 5, none⟩ = some (.int .i64 x.wlo) := hcs 5 _ rfl
  have v6 : w2.cell? ⟨g, i * 7 + 6, none⟩ = some (.int .i64 x.whi) := hcs 6 _ rfl
  have lg := hgb.2
  rw [hg] at d3
  have kX := Blk.new w2 53 #[.string x.name, .int .i64 x.crop, .int .i64 x.stage, .slice x.pa x.parts.length x.pc, .int .i64 x.per, .int .i64 x.wlo, .int .i64 x.whi]
  have hb3 : Below w2.heap.size w2 (w2.alloc (.cells #[.string x.name, .int .i64 x.crop, .int .i64 x.stage, .slice x.pa x.parts.length x.pc, .int .i64 x.per, .int .i64 x.wlo, .int .i64 x.whi] 53)) := (Below.refl _ w2).alloc (Nat.le_refl _) _
  clear hg hcs hgb
  go_upto_region 13 with fail
  clear v0 v1 v2 v3 v4 v5 v6 lg hcap hcx
  clear f0 f1 fl d0 d1 d2 d3 d4 d5 dl c0 c1 c2 c3 c4 c5 c6 c7 c8 cl
  have KF3 := Lib.hid (KF2.out.belowS hb3)
  have KS3 := Lib.hid (KS2.out.belowS hb3)
  have KA3 := Lib.hid (KA2.out.belowS hb3)
  have KR3 := Lib.hid (KR2.out.belowS hb3)
  have HB3 := Lib.hid (HB2.out.trans (Turn.of_below hb3))
  have HSZ3 := Lib.hid (Nat.le_trans HSZ2.out hb3.size)
  have HWZ3 := Lib.hid (Nat.le_trans HWZ2.out hb3.size)
  have HS3 := Lib.hid (HS2.out.below hb3)
  generalize w2.alloc (.cells #[.string x.name, .int .i64 x.crop, .int .i64 x.stage, .slice x.pa x.parts.length x.pc, .int .i64 x.per, .int .i64 x.wlo, .int .i64 x.whi] 53) = w3 at *
  have HBH0 := Lib.hid HWZ2.out
  obtain ⟨bh, hbh⟩ : ∃ bh, bh = w2.heap.size := ⟨_, rfl⟩
  rw [← hbh] at kX HBH0 ⊢
  clear hbh hb3 KF2 KS2 KA2 KR2 HS2
  have KH3 := Lib.hid kX
  clear kX
  obtain ⟨f0, f1⟩ := frm_cells KF3.out
  have fl := KF3.out.lt
  obtain ⟨d0, d1, d2, d3, d4, d5⟩ := sto_cells (S := S) KS3.out
  have dl := KS3.out.lt
  obtain ⟨c0, c1, c2, c3, c4, c5, c6, c7, c8⟩ := chr_cells KA3.out
  have cl := KA3.out.lt
  obtain ⟨x0, x1, x2, x3, x4, x5, x6⟩ := hepB_cells KH3.out
  have xl := KH3.out.lt
  by_cases h4 : x.stage = 3
  rotate_left
  · have q1 : (x.stage == 3) = false := by simp [h4]
    have q2 : (x.stage != 3) = true := by simp [h4]
    have HV := Lib.hid (show (useD S ⟨7, pl, ld, nm, ot, dy, pr, rl, rh⟩).1 = 8 by unfold useD; dsimp only; rw [if_neg (by rw [HIX.out]; omega), if_pos (by rw [HXH.out]; exact h4)])
    clear h4
    obtain ⟨rr0, rr1, rr2, rr3, rr4, rr5⟩ := zero_cells KR3.out
    have rrl := KR3.out.lt
    have rrz0 := KR3.out.frozen 0
    have rrz1 := KR3.out.frozen 1
    have rrz2 := KR3.out.frozen 2
    have rrz3 := KR3.out.frozen 3
    have rrz4 := KR3.out.frozen 4
    have rrz5 := KR3.out.frozen 5
    go_wp2_with fail
    refine put_end S KR3.out (Φ := bodyPost _ _ _ _ _) (fun wf ht kf => ?_)
    obtain ⟨g0, g1, g2, g3, g4, g5⟩ := sto_cells (S := S) kf
    exact bodyPost_ret (v := .tuple #[.agg #[.int .i64 S.year, .slice S.la S.last.length S.lc, .slice S.ga S.given.length S.gc, .slice S.ha S.heaps.length S.hc, .slice S.ua S.used.length S.uc, .slice S.wa S.waste.length S.wc], .int .i64 8]) (by simp [results, Tryz.results23, go_sem, g0, g1, g2, g3, g4, g5]) rfl (ChMade.err S HV.out (by decide) (HB3.out.far ht (fun k e => by rw [show k = w.heap.size + 1 + 1 + 1 from e]; omega)))
  have q1 : (x.stage == 3) = true := by simp [h4]
  have q2 : (x.stage != 3) = false := by simp [h4]
  have H4 := Lib.hid h4
  have HPER := Lib.hid (HXO.out.2.2.2.2.1 h4)
  clear h4
  have HDF := Lib.hid (div_facts HXO.out.2.2.2.1 HPER.out)
  have hper := HPER.out
  have hp0 : ¬ x.per = 0 := by omega
  have hp0' : (x.per == 0) = false := by simp [hp0]
  have hlo : ∀ n, Calls Tryz.prog 46 #[.slice x.pa x.parts.length x.pc] (w3.drewN n) fun e w' => e = .returned (.int .i64 (loadsM x.parts)) ∧ w' = w3.drewN n := fun n => (refLoads_any F.ps.length x.pa x.pc x.parts _ ((HS3.out.parts x HXM.out).1.1.belowS (below_drewN' _ _ _)) HXO.out.1 HXO.out.2.2.1).mono fun _ _ ⟨a, b⟩ => ⟨a, b.symm⟩
  have HLO := Lib.hid hlo
  clear hlo
  obtain ⟨v, hv⟩ : ∃ v, loadsM x.parts = v := ⟨_, rfl⟩
  have HV0 := Lib.hid hv
  rw [hv] at HLO HDF
  obtain ⟨q, hq⟩ : ∃ q, v / x.per = q := ⟨_, rfl⟩
  have HQ := Lib.hid hq
  rw [hq] at HDF
  have htd : v.tdiv x.per = q := HDF.out.1
  have hwq : IntKind.i64.wrap q = q := by have := HDF.out.2.1; rw [IntKind.wrap_i64]; omega
  obtain ⟨b6, hb6⟩ : ∃ b6, isFromB ld 1 q = b6 := ⟨_, rfl⟩
  have H6 := Lib.hid hb6
  clear hv hq hper hb6
  go_upto_region 35 with fail
  clear q1 q2
  go_quiet (first | (go_at_call 46; refine Calls.quiet_of_same (HLO.out _)) | (go_at_call 43; refine Calls.quiet_of_same (refIn_is H6.out _)))
  generalize hw5 : w3.drewN _ = w5
  have hb5 : Below w3.heap.size w3 w5 := by rw [← hw5]; exact below_drewN' _ _ _
  clear hw5 htd hwq hp0 hp0'
  clear f0 f1 fl d0 d1 d2 d3 d4 d5 dl c0 c1 c2 c3 c4 c5 c6 c7 c8 cl x0 x1 x2 x3 x4 x5 x6 xl
  have KF5 := Lib.hid (KF3.out.belowS hb5)
  have KS5 := Lib.hid (KS3.out.belowS hb5)
  have KA5 := Lib.hid (KA3.out.belowS hb5)
  have KR5 := Lib.hid (KR3.out.belowS hb5)
  have KH5 := Lib.hid (KH3.out.belowS hb5)
  have HB5 := Lib.hid (HB3.out.trans (Turn.of_below hb5))
  have HSZ5 := Lib.hid (Nat.le_trans HSZ3.out hb5.size)
  have HWZ5 := Lib.hid (Nat.le_trans HWZ3.out hb5.size)
  have HS5 := Lib.hid (HS3.out.below hb5)
  clear hb5 KF3 KS3 KA3 KR3 KH3 HS3
  obtain ⟨f0, f1⟩ := frm_cells KF5.out
  have fl := KF5.out.lt
  obtain ⟨d0, d1, d2, d3, d4, d5⟩ := sto_cells (S := S) KS5.out
  have dl := KS5.out.lt
  obtain ⟨c0, c1, c2, c3, c4, c5, c6, c7, c8⟩ := chr_cells KA5.out
  have cl := KA5.out.lt
  obtain ⟨x0, x1, x2, x3, x4, x5, x6⟩ := hepB_cells KH5.out
  have xl := KH5.out.lt
  cases b6 with
  | false =>
    have HV := Lib.hid (show (useD S ⟨7, pl, ld, nm, ot, dy, pr, rl, rh⟩).1 = 1 by unfold useD; dsimp only; rw [if_neg (by rw [HIX.out]; omega), if_neg (by rw [HXH.out]; exact not_not_intro H4.out), if_pos (by rw [HXH.out, HV0.out, HQ.out]; exact H6.out)])
    obtain ⟨rr0, rr1, rr2, rr3, rr4, rr5⟩ := zero_cells KR5.out
    have rrl := KR5.out.lt
    have rrz0 := KR5.out.frozen 0
    have rrz1 := KR5.out.frozen 1
    have rrz2 := KR5.out.frozen 2
    have rrz3 := KR5.out.frozen 3
    have rrz4 := KR5.out.frozen 4
    have rrz5 := KR5.out.frozen 5
    go_wp2_with fail
    refine put_end S KR5.out (Φ := bodyPost _ _ _ _ _) (fun wf ht kf => ?_)
    obtain ⟨g0, g1, g2, g3, g4, g5⟩ := sto_cells (S := S) kf
    exact bodyPost_ret (v := .tuple #[.agg #[.int .i64 S.year, .slice S.la S.last.length S.lc, .slice S.ga S.given.length S.gc, .slice S.ha S.heaps.length S.hc, .slice S.ua S.used.length S.uc, .slice S.wa S.waste.length S.wc], .int .i64 1]) (by simp [results, Tryz.results23, go_sem, g0, g1, g2, g3, g4, g5]) rfl (ChMade.err S HV.out (by decide) (HB5.out.far ht (fun k e => by rw [show k = w.heap.size + 1 + 1 + 1 from e]; omega)))
  | true =>
  have HL := Lib.hid (isFromB_iff.1 H6.out)
  have HM := Lib.hid (show 0 ≤ ld * x.per ∧ ld * x.per ≤ v ∧ v ≤ 100000000 by
    have h1 := HL.out
    have h2 := HPER.out
    have h3 := HDF.out.2.2.2.2.2
    have h4 := Int.mul_le_mul_of_nonneg_right h1.2 (show 0 ≤ x.per by omega)
    have h5 := Int.mul_nonneg (show 0 ≤ ld by omega) (show 0 ≤ x.per by omega)
    have h6 := HXO.out.2.2.2.1.2
    rw [HV0.out] at h6
    omega)
  have hwm : IntKind.i64.wrap (ld * x.per) = ld * x.per := by have := HM.out; rw [IntKind.wrap_i64]; omega
  go_wp2_with fail
  refine (refCutF_any x.pa x.pc x.parts (ld * x.per) _ ((HS5.out.parts x HXM.out).1.1) (fun p hp => (HXO.out.1 p hp).2) HXO.out.2.2.1 HM.out.1 (by have := HM.out; omega)).mono ?_
  rintro e w6 ⟨⟨a1, n1, a2, n2, rfl, hG, hR⟩, hb⟩
  clear f0 f1 fl d0 d1 d2 d3 d4 d5 dl c0 c1 c2 c3 c4 c5 c6 c7 c8 cl x0 x1 x2 x3 x4 x5 x6 xl
  clear hwm
  have KF6 := Lib.hid (KF5.out.belowS hb)
  have KS6 := Lib.hid (KS5.out.belowS hb)
  have KA6 := Lib.hid (KA5.out.belowS hb)
  have KR6 := Lib.hid (KR5.out.belowS hb)
  have KH6 := Lib.hid (KH5.out.belowS hb)
  have HB6 := Lib.hid (HB5.out.trans (Turn.of_below hb))
  have HSZ6 := Lib.hid (Nat.le_trans HSZ5.out hb.size)
  have HWZ6 := Lib.hid (Nat.le_trans HWZ5.out hb.size)
  have HS6 := Lib.hid (HS5.out.below hb)
  have HGN := Lib.hid (show NewP w5 w6 a1 n1 (cutT (ld * x.per) x.parts) from hG)
  have HRN := Lib.hid (show NewP w5 w6 a2 n2 (cutR (ld * x.per) x.parts) from hR)
  have HC2 := Lib.hid (show Cool base w6 S a2 from HS5.out.cool HSZ5.out hR.2)
  have HGL := Lib.hid (cutT_len x.parts (ld * x.per))
  have HRL := Lib.hid (cutR_len x.parts (ld * x.per))
  have HGO := Lib.hid (show ∀ p ∈ cutT (ld * x.per) x.parts, 1 ≤ p.loads ∧ p.loads ≤ 100000 from fun p hp => (cutT_okN HXO.out.1 p hp).2)
  have HWM := Lib.hid (with_move S.heaps i x (ld * x.per) HX.out)
  obtain ⟨G, hGG⟩ : ∃ G, cutT (ld * x.per) x.parts = G := ⟨_, rfl⟩
  obtain ⟨R, hRR⟩ : ∃ R, cutR (ld * x.per) x.parts = R := ⟨_, rfl⟩
  rw [hGG] at HGN HGL HGO ⊢
  rw [hRR] at HRN HRL HWM ⊢
  have HGG := Lib.hid hGG
  clear hb hG hR hGG hRR KF5 KS5 KA5 KR5 KH5 HS5
  obtain ⟨f0, f1⟩ := frm_cells KF6.out
  have fl := KF6.out.lt
  obtain ⟨d0, d1, d2, d3, d4, d5⟩ := sto_cells (S := S) KS6.out
  have dl := KS6.out.lt
  obtain ⟨c0, c1, c2, c3, c4, c5, c6, c7, c8⟩ := chr_cells KA6.out
  have cl := KA6.out.lt
  obtain ⟨x0, x1, x2, x3, x4, x5, x6⟩ := hepB_cells KH6.out
  have xl := KH6.out.lt
  go_upto_region 38 with fail
  go_wp2_with fail
  refine (refJoined_any S.ua a1 S.uc n1 S.used G _ (HS6.out.used.1) (HGN.out.1) (fun p hp => by have := (HUO.out.1 p hp).2; omega) (HGO.out) (by have := HFIT.out.used; omega) (by have := HGL.out; have := HXO.out.2.2.1; omega)).mono ?_
  rintro e w7 ⟨⟨aw, nw, rfl, hN⟩, hb⟩
  clear f0 f1 fl d0 d1 d2 d3 d4 d5 dl c0 c1 c2 c3 c4 c5 c6 c7 c8 cl x0 x1 x2 x3 x4 x5 x6 xl
  have KF7 := Lib.hid (KF6.out.belowS hb)
  have KS7 := Lib.hid (KS6.out.belowS hb)
  have KA7 := Lib.hid (KA6.out.belowS hb)
  have KR7 := Lib.hid (KR6.out.belowS hb)
  have KH7 := Lib.hid (KH6.out.belowS hb)
  have HB7 := Lib.hid (HB6.out.trans (Turn.of_below hb))
  have HSZ7 := Lib.hid (Nat.le_trans HSZ6.out hb.size)
  have HWZ7 := Lib.hid (Nat.le_trans HWZ6.out hb.size)
  have HS7 := Lib.hid (HS6.out.below hb)
  have HN7 := Lib.hid (show NewP w6 w7 aw nw (putL S.used G) from hN)
  have HC7 := Lib.hid (show Cool base w7 S aw from HS6.out.cool HSZ6.out hN.2)
  have HSZ67 := Lib.hid hb.size
  have HR7 := Lib.hid (HRN.out.1.belowS hb)
  obtain ⟨P, hPP⟩ : ∃ P, putL S.used G = P := ⟨_, rfl⟩
  rw [hPP] at HN7 ⊢
  have HPP := Lib.hid hPP
  clear hb hN hPP KF6 KS6 KA6 KR6 KH6 HS6
  obtain ⟨f0, f1⟩ := frm_cells KF7.out
  have fl := KF7.out.lt
  obtain ⟨d0, d1, d2, d3, d4, d5⟩ := sto_cells (S := S) KS7.out
  have dl := KS7.out.lt
  obtain ⟨c0, c1, c2, c3, c4, c5, c6, c7, c8⟩ := chr_cells KA7.out
  have cl := KA7.out.lt
  obtain ⟨x0, x1, x2, x3, x4, x5, x6⟩ := hepB_cells KH7.out
  have xl := KH7.out.lt
  have dz := KS7.out.frozen 4
  go_upto_region 39 with fail
  have kf : Blk (w7.setCell ⟨w.heap.size + 1, 4, none⟩ (.slice aw P.length nw)) (w.heap.size + 1) #[.int .i64 S.year, .slice S.la S.last.length S.lc, .slice S.ga S.given.length S.gc, .slice S.ha S.heaps.length S.hc, .slice aw P.length nw, .slice S.wa S.waste.length S.wc] 29 := KS7.out.set 4 _
  have ht : Turn (fun k => k = w.heap.size + 1) w7 (w7.setCell ⟨w.heap.size + 1, 4, none⟩ (.slice aw P.length nw)) := (Turn.of_below (X := fun k => k = w.heap.size + 1) (Below.refl _ w7)).setCell (B := w.heap.size + 1) rfl 4 _
  generalize (w7.setCell ⟨w.heap.size + 1, 4, none⟩ (.slice aw P.length nw)) = w8 at *
  clear f0 f1 fl d0 d1 d2 d3 d4 d5 dl c0 c1 c2 c3 c4 c5 c6 c7 c8 cl x0 x1 x2 x3 x4 x5 x6 xl
  clear dz
  have KS8 := Lib.hid kf
  have KF8 := Lib.hid (ht.blk KF7.out (fun e => by have := (show w.heap.size = w.heap.size + 1 from e); omega))
  have KA8 := Lib.hid (ht.blk KA7.out (fun e => by have := (show w.heap.size + 1 + 1 = w.heap.size + 1 from e); omega))
  have KR8 := Lib.hid (ht.blk KR7.out (fun e => by have := (show w.heap.size + 1 + 1 + 1 = w.heap.size + 1 from e); omega))
  have KH8 := Lib.hid (ht.blk KH7.out (fun e => by have := (show bh = w.heap.size + 1 from e); have := HBH0.out; omega))
  have HB8 := Lib.hid (HB7.out.far ht (fun k e => by rw [show k = w.heap.size + 1 from e]; omega))
  have HSZ8 := Lib.hid (Nat.le_trans HSZ7.out ht.size)
  have HWZ8 := Lib.hid (Nat.le_trans HWZ7.out ht.size)
  have HS8 := Lib.hid ((HS7.out.turnAt ht (HS.out.off (.inl (by omega)))).setUsed (a := aw) (c := nw) (l := P) (HN7.out.1.turn ht (fun k e e2 => by have := (HN7.out.2 k e).1; have := HWZ6.out; have := (show k = w.heap.size + 1 from e2); omega)) (HC7.out.mono ht.size))
  have HFA := Lib.hid (show FromN (w.heap.size + 4) aw from fun k e => by have := (HN7.out.2 k e).1; have := HWZ6.out; omega)
  have HR8 := Lib.hid (HR7.out.turn ht (fun k e e2 => by have := (HRN.out.2 k e).1; have := HWZ5.out; have := (show k = w.heap.size + 1 from e2); omega))
  have HC8 := Lib.hid (show Cool base w8 S a2 from (HC2.out.mono HSZ67.out).mono ht.size)
  clear kf ht KF7 KS7 KA7 KR7 KH7 HS7
  obtain ⟨d0, d1, d2, d3, d4, d5⟩ := (show w8.cell? ⟨w.heap.size + 1, 0, none⟩ = some (.int .i64 S.year) ∧ w8.cell? ⟨w.heap.size + 1, 1, none⟩ = some (.slice S.la S.last.length S.lc) ∧ w8.cell? ⟨w.heap.size + 1, 2, none⟩ = some (.slice S.ga S.given.length S.gc) ∧ w8.cell? ⟨w.heap.size + 1, 3, none⟩ = some (.slice S.ha S.heaps.length S.hc) ∧ w8.cell? ⟨w.heap.size + 1, 4, none⟩ = some (.slice aw P.length nw) ∧ w8.cell? ⟨w.heap.size + 1, 5, none⟩ = some (.slice S.wa S.waste.length S.wc) from ⟨KS8.out.cell 0, KS8.out.cell 1, KS8.out.cell 2, KS8.out.cell 3, KS8.out.cell 4, KS8.out.cell 5⟩)
  have dl := KS8.out.lt
  go_wp2_with fail
  refine (show Calls Tryz.prog 51 #[.agg #[.int .i64 S.year, .slice S.la S.last.length S.lc, .slice S.ga S.given.length S.gc, .slice S.ha S.heaps.length S.hc, .slice aw P.length nw, .slice S.wa S.waste.length S.wc], .int .i64 (i : Int), .slice a2 R.length n2] w8 _ from refWith_any base { S with ua := aw, uc := nw, used := P } i x a2 n2 R w8 HS8.out HSZ8.out HX.out HR8.out HC8.out (by have := HRL.out; have := HXO.out.2.2.1; omega) HFIT.out.heaps).mono ?_
  rintro e w9 ⟨⟨T, rfl, hT, hsm, hoff, hla, hga, hha⟩, hb⟩
  clear d0 d1 d2 d3 d4 d5 dl
  have KR9 := Lib.hid (hb.blk KR8.out (fun e => by have := (own_geq HS.out.heaps (k := w.heap.size + 1 + 1 + 1) e).2; omega))
  have HB9 := Lib.hid (HB8.out.trans (hb.mono (fun k _ e => .inr (.inr e))))
  have HS9 := Lib.hid hT
  have HSM := Lib.hid hsm
  have HOFF := Lib.hid (show OffUpTo w8.heap.size a2 { S with ua := aw, uc := nw, used := P } T from hoff)
  clear hT hsm hoff hla hga hha hb KS8 KR8
  unfold stoV
  have HV := Lib.hid (show (useD S ⟨7, pl, ld, nm, ot, dy, pr, rl, rh⟩) = (0, { S with used := P, heaps := withH S.heaps i R }) by
    unfold useD
    dsimp only
    rw [if_neg (by rw [HIX.out]; omega), if_neg (by rw [HXH.out]; exact not_not_intro H4.out), if_neg (by rw [HXH.out, HV0.out, HQ.out, H6.out]; decide), HXH.out, HIX.out, Int.toNat_natCast, HGG.out, HPP.out, HWM.out])
  obtain ⟨rr0, rr1, rr2, rr3, rr4, rr5⟩ := zero_cells KR9.out
  have rrl := KR9.out.lt
  have rrz0 := KR9.out.frozen 0
  have rrz1 := KR9.out.frozen 1
  have rrz2 := KR9.out.frozen 2
  have rrz3 := KR9.out.frozen 3
  have rrz4 := KR9.out.frozen 4
  have rrz5 := KR9.out.frozen 5
  go_wp2_with fail
  refine put_end T KR9.out (Φ := bodyPost _ _ _ _ _) (fun wf ht kf => ?_)
  obtain ⟨g0, g1, g2, g3, g4, g5⟩ := sto_cells (S := T) kf
  have hoff : OffTo (w.heap.size + 4) S T := fun B hB ho => HOFF.out B (by have := HWZ8.out; omega) ⟨ho.la, ho.ga, ho.ha, fun e => by have := HFA.out B e; omega, ho.wa, ho.pa⟩ (fun e => by have := (HRN.out.2 B e).1; have := HWZ5.out; omega)
  refine bodyPost_ret (v := .tuple #[.agg #[.int .i64 T.year, .slice T.la T.last.length T.lc, .slice T.ga T.given.length T.gc, .slice T.ha T.heaps.length T.hc, .slice T.ua T.used.length T.uc, .slice T.wa T.waste.length T.wc], .int .i64 0]) (by simp [results, Tryz.results23, go_sem, g0, g1, g2, g3, g4, g5]) rfl ⟨⟨T, by rw [HV.out], fun _ => ⟨(HS9.out).turnAt ht (hoff _ (by omega) (HS.out.off (.inl (by omega)))), ?_, fun B hB ho => hoff B (by omega) ho⟩⟩, HB9.out.far ht (fun k e => by rw [show k = w.heap.size + 1 + 1 + 1 from e]; omega)⟩
  rw [HV.out]
  obtain ⟨s1, s2, s3, s4, s5, s6, s7⟩ := HSM.out
  exact ⟨s1, s2, s3, s4, s5, s6, s7⟩
end
end Go.Proofs.YtfhalmlpnoepcaaGreat
