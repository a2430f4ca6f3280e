/- The chore comb (thatchref02.done). No condition but that the store may be. The chore dry (thatchref02.done). No condition but that the store may be. What a chore does by the specification (thatchref02.done, Do). No condition but the bounds of what is given. StrawDoes' walk. -/
import Derived.Test.YtfhalmlpnoepcaaGreatQDB
import Derived.Test.YtfhalmlpnoepcaaGreatQDA
import Derived.Test.YtfhalmlpnoepcaaGreatQDE
import Derived.Test.YtfhalmlpnoepcaaGreatGO
import Derived.Test.YtfhalmlpnoepcaaGreatJG
import Derived.Test.YtfhalmlpnoepcaaGreatQDG
import Derived.Test.YtfhalmlpnoepcaaGreatGL
namespace Go.Proofs.YtfhalmlpnoepcaaGreat
section
set_option linter.unusedSimpArgs false
open Go.RowKit

set_option maxRecDepth 100000 in
set_option maxHeartbeats 32000000 in
theorem refDone4_any (base : Nat) (F : Frm) (S : Sto) (pl ld : Int) (nm ot : ByteArray) (dy pr rl rh : Int) (w : World) (hF : ∀ w', Below base w w' → IsFarm w' F) (hS : Rst base w S) (hbase : base ≤ w.heap.size) (hE : storeE F S = 0) (hfit : S.fit) (hnm : nm.size ≤ maxLen) (hno : ot.size ≤ maxLen) :
    Calls Tryz.prog 23 #[.agg #[.slice F.pa F.ps.length F.pc, .int .i64 F.dry], .agg #[.int .i64 S.year, .slice S.la S.last.length S.lc, .slice S.ga S.given.length S.gc, .slice S.ha S.heaps.length S.hc, .slice S.ua S.used.length S.uc, .slice S.wa S.waste.length S.wc], .agg #[.int .i64 4, .int .i64 pl, .int .i64 ld, .string nm, .string ot, .int .i64 dy, .int .i64 pr, .int .i64 rl, .int .i64 rh]] w (ChMade base S (combD F S ⟨4, pl, ld, nm, ot, dy, pr, rl, rh⟩) w) := by
  have HF := Lib.hid (show FarmAt base w F from hF)
  have HS := Lib.hid hS
  have HBASE := Lib.hid hbase
  have HE := Lib.hid hE
  have HFIT := Lib.hid hfit
  have HNM := Lib.hid hnm
  have HNO := Lib.hid hno
  have HUO := Lib.hid (show (∀ p ∈ S.used, p.ok F.ps.length) ∧ (∀ p ∈ S.waste, p.ok F.ps.length) from ⟨partsB_ok (store_ok hE).2.2.1, partsB_ok (store_ok hE).2.2.2.1⟩)
  have HYR := Lib.hid (years_ok hE).1
  clear hF hS hbase hE hfit hnm hno
  go_enter Tryz.func23, Tryz.ntmps23
  go_upto_region 1 with fail
  generalize hw1 : ((((w.alloc (.cells #[.slice F.pa F.ps.length F.pc, .int .i64 F.dry] 24)).alloc (.cells #[.int .i64 S.year, .slice S.la S.last.length S.lc, .slice S.ga S.given.length S.gc, .slice S.ha S.heaps.length S.hc, .slice S.ua S.used.length S.uc, .slice S.wa S.waste.length S.wc] 29)).alloc (.cells #[.int .i64 4, .int .i64 pl, .int .i64 ld, .string nm, .string ot, .int .i64 dy, .int .i64 pr, .int .i64 rl, .int .i64 rh] 34)).alloc (.cells #[.int .i64 0, .slice none 0 0, .slice none 0 0, .slice none 0 0, .slice none 0 0, .slice none 0 0] 29)) = w1
  obtain ⟨k1, k2, k3, k4, hb1⟩ := four_boxes w F S 4 pl ld nm ot dy pr rl rh _ _ _ w1 hw1.symm
  clear hw1
  have HB1 := Lib.hid (show Turn (Hot S) w w1 from Turn.of_below hb1)
  have HSZ1 := Lib.hid (Nat.le_trans HBASE.out hb1.size)
  have HWZ1 := Lib.hid (show w.heap.size + 4 ≤ w1.heap.size from k4.lt)
  have KF1 := Lib.hid k1
  have KS1 := Lib.hid k2
  have KA1 := Lib.hid k3
  have KR1 := Lib.hid k4
  have HS1 := Lib.hid (HS.out.below hb1)
  clear k1 k2 k3 k4 hb1
  obtain ⟨f0, f1⟩ := frm_cells KF1.out
  have fl := KF1.out.lt
  obtain ⟨d0, d1, d2, d3, d4, d5⟩ := sto_cells (S := S) KS1.out
  have dl := KS1.out.lt
  obtain ⟨c0, c1, c2, c3, c4, c5, c6, c7, c8⟩ := chr_cells KA1.out
  have cl := KA1.out.lt
  go_wp2_with fail
  refine (refAt_any S nm _ (HS1.out.store.heaps)).mono ?_
  rintro e w2 ⟨rfl, hb⟩
  clear f0 f1 fl d0 d1 d2 d3 d4 d5 dl c0 c1 c2 c3 c4 c5 c6 c7 c8 cl
  have KF2 := Lib.hid (KF1.out.belowS hb)
  have KS2 := Lib.hid (KS1.out.belowS hb)
  have KA2 := Lib.hid (KA1.out.belowS hb)
  have KR2 := Lib.hid (KR1.out.belowS hb)
  have HB2 := Lib.hid (HB1.out.trans (Turn.of_below hb))
  have HSZ2 := Lib.hid (Nat.le_trans HSZ1.out hb.size)
  have HWZ2 := Lib.hid (Nat.le_trans HWZ1.out hb.size)
  have HS2 := Lib.hid (HS1.out.below hb)
  clear hb KF1 KS1 KA1 KR1 HS1
  obtain ⟨ix, hix⟩ : ∃ ix, idxH S.heaps nm = ix := ⟨_, rfl⟩
  have HIX := Lib.hid hix
  rw [hix]
  clear hix
  obtain ⟨f0, f1⟩ := frm_cells KF2.out
  have fl := KF2.out.lt
  obtain ⟨d0, d1, d2, d3, d4, d5⟩ := sto_cells (S := S) KS2.out
  have dl := KS2.out.lt
  obtain ⟨c0, c1, c2, c3, c4, c5, c6, c7, c8⟩ := chr_cells KA2.out
  have cl := KA2.out.lt
  by_cases h3 : ix < 0
  · have HV := Lib.hid (show (combD F S ⟨4, pl, ld, nm, ot, dy, pr, rl, rh⟩).1 = 7 by unfold combD; rw [if_pos (by dsimp only; rw [HIX.out]; exact h3)])
    obtain ⟨rr0, rr1, rr2, rr3, rr4, rr5⟩ := zero_cells KR2.out
    have rrl := KR2.out.lt
    have rrz0 := KR2.out.frozen 0
    have rrz1 := KR2.out.frozen 1
    have rrz2 := KR2.out.frozen 2
    have rrz3 := KR2.out.frozen 3
    have rrz4 := KR2.out.frozen 4
    have rrz5 := KR2.out.frozen 5
    go_wp2_with fail
    refine put_end S KR2.out (Φ := bodyPost _ _ _ _ _) (fun wf ht kf => ?_)
    obtain ⟨g0, g1, g2, g3, g4, g5⟩ := sto_cells (S := S) kf
    exact bodyPost_ret (v := .tuple #[.agg #[.int .i64 S.year, .slice S.la S.last.length S.lc, .slice S.ga S.given.length S.gc, .slice S.ha S.heaps.length S.hc, .slice S.ua S.used.length S.uc, .slice S.wa S.waste.length S.wc], .int .i64 7]) (by simp [results, Tryz.results23, go_sem, g0, g1, g2, g3, g4, g5]) rfl (ChMade.err S HV.out (by decide) (HB2.out.far ht (fun k e => by rw [show k = w.heap.size + 1 + 1 + 1 from e]; omega)))
  have hix2 := idxH_at (show 0 ≤ idxH S.heaps nm by rw [HIX.out]; omega)
  obtain ⟨i, x, hm1, hm2, hm3, _⟩ := hix2
  obtain rfl : ix = (i : Int) := by rw [← HIX.out, hm1]
  have HXH := Lib.hid (hepAt_of hm1 hm3)
  have HX := Lib.hid hm3
  have HXM := Lib.hid (List.mem_of_getElem? hm3)
  have HXO := Lib.hid (heap_ok HE.out HFIT.out (List.mem_of_getElem? hm3))
  have HIL := Lib.hid hm2
  have HNI := Lib.hid (show ¬ idxH S.heaps nm < 0 by rw [HIX.out]; exact h3)
  have hi0 : (0 : Int) ≤ (i : Int) := Int.natCast_nonneg _
  have hi1 : (i : Int) < (S.heaps.length : Int) := by omega
  clear hm1 hm2 hm3 h3
  obtain ⟨g, hg, hgb, hcap, hcx, hcs, _⟩ := HS2.out.heapAt HX.out
  have HG := Lib.hid hg
  have HGB := Lib.hid (show base ≤ g ∧ g < w.heap.size from own_geq HS.out.heaps (k := g) (by rw [hg]; rfl))
  have v0 : w2.cell? ⟨g, i * 7, none⟩ = some (.string x.name) := hcs 0 _ rfl
  have v1 : w2.cell? ⟨g, i * 7 + 1, none⟩ = some (.int .i64 x.crop) := hcs 1 _ rfl
  have v2 : w2.cell? ⟨g, i * 7 + 2, none⟩ = some (.int .i64 x.stage) := hcs 2 _ rfl
  have v3 : w2.cell? ⟨g, i * 7 + 3, none⟩ = some (.slice x.pa x.parts.length x.pc) := hcs 3 _ rfl
  have v4 : w2.cell? ⟨g, i * 7 + 4, none⟩ = some (.int .i64 x.per) := hcs 4 _ rfl
  have v5 : w2.cell? ⟨g, i * 7 + 5, none⟩ = some (.int .i64 x.wlo) := hcs 5 _ rfl
  have v6 : w2.cell? ⟨g, i * 7 + 6, none⟩ = some (.int .i64 x.whi) := hcs 6 _ rfl
  have lg := hgb.2
  rw [hg] at d3
  have kX := Blk.new w2 53 #[.string x.name, .int .i64 x.crop, .int .i64 x.stage, .slice x.pa x.parts.length x.pc, .int .i64 x.per, .int .i64 x.wlo, .int .i64 x.whi]
  have hb3 : Below w2.heap.size w2 (w2.alloc (.cells #[.string x.name, .int .i64 x.crop, .int .i64 x.stage, .slice x.pa x.parts.length x.pc, .int .i64 x.per, .int .i64 x.wlo, .int .i64 x.whi] 53)) := (Below.refl _ w2).alloc (Nat.le_refl _) _
  clear hg hcs hgb
  go_upto_region 13 with fail
  clear v0 v1 v2 v3 v4 v5 v6 lg hcap hcx
  clear f0 f1 fl d0 d1 d2 d3 d4 d5 dl c0 c1 c2 c3 c4 c5 c6 c7 c8 cl
  have KF3 := Lib.hid (KF2.out.belowS hb3)
  have KS3 := Lib.hid (KS2.out.belowS hb3)
  have KA3 := Lib.hid (KA2.out.belowS hb3)
  have KR3 := Lib.hid (KR2.out.belowS hb3)
  have HB3 := Lib.hid (HB2.out.trans (Turn.of_below hb3))
  have HSZ3 := Lib.hid (Nat.le_trans HSZ2.out hb3.size)
  have HWZ3 := Lib.hid (Nat.le_trans HWZ2.out hb3.size)
  have HS3 := Lib.hid (HS2.out.below hb3)
  generalize w2.alloc (.cells #[.string x.name, .int .i64 x.crop, .int .i64 x.stage, .slice x.pa x.parts.length x.pc, .int .i64 x.per, .int .i64 x.wlo, .int .i64 x.whi] 53) = w3 at *
  have HBH0 := Lib.hid HWZ2.out
  obtain ⟨bh, hbh⟩ : ∃ bh, bh = w2.heap.size := ⟨_, rfl⟩
  rw [← hbh] at kX HBH0 ⊢
  clear hbh hb3 KF2 KS2 KA2 KR2 HS2
  have KH3 := Lib.hid kX
  clear kX
  obtain ⟨f0, f1⟩ := frm_cells KF3.out
  have fl := KF3.out.lt
  obtain ⟨d0, d1, d2, d3, d4, d5⟩ := sto_cells (S := S) KS3.out
  have dl := KS3.out.lt
  obtain ⟨c0, c1, c2, c3, c4, c5, c6, c7, c8⟩ := chr_cells KA3.out
  have cl := KA3.out.lt
  obtain ⟨x0, x1, x2, x3, x4, x5, x6⟩ := hepB_cells KH3.out
  have xl := KH3.out.lt
  obtain ⟨b5, hb5⟩ : ∃ b5, decide (x.stage = 1 ∧ x.whi ≤ F.dry) = b5 := ⟨_, rfl⟩
  have H5 := Lib.hid hb5
  clear hb5
  go_upto_region 21 with fail
  go_cut [110] from 100 to 110 (fun s110 wx => s110 = .bool (!b5) ∧ wx = w3)
  case first =>
    by_cases h1 : x.stage = 1
    rotate_left
    · have q1 : (x.stage == 1) = false := by simp [h1]
      have q2 : (x.stage != 1) = true := by simp [h1]
      have HN1 := Lib.hid (show ¬ (x.stage = 1 ∧ x.whi ≤ F.dry) from fun h => h1 h.1)
      clear h1
      go_wp2_with fail
      go_meet
      exact ⟨by rw [← H5.out, decide_eq_false HN1.out] <;> first | rfl | simp [h2] | (simp; omega), rfl⟩
    have q1 : (x.stage == 1) = true := by simp [h1]
    have q2 : (x.stage != 1) = false := by simp [h1]
    by_cases h2 : F.dry < x.whi
    · have q3 : decide (F.dry < x.whi) = true := decide_eq_true h2
      have HN1 := Lib.hid (show ¬ (x.stage = 1 ∧ x.whi ≤ F.dry) from fun h => by omega)
      clear h1
      go_wp2_with fail
      go_meet
      exact ⟨by rw [← H5.out, decide_eq_false HN1.out] <;> first | rfl | simp [h2] | (simp; omega), rfl⟩
    · have q3 : decide (F.dry < x.whi) = false := decide_eq_false h2
      have HN1 := Lib.hid (show x.stage = 1 ∧ x.whi ≤ F.dry from ⟨h1, by omega⟩)
      clear h1
      go_wp2_with fail
      go_meet
      exact ⟨by rw [← H5.out, decide_eq_true HN1.out] <;> first | rfl | simp [h2] | (simp; omega), rfl⟩
  obtain ⟨rfl, hw4⟩ := hcut
  subst hw4
  obtain ⟨w3, rfl⟩ : ∃ w3 : World, w3 = wc := ⟨_, rfl⟩
  cases b5 with
  | false =>
    have HV := Lib.hid (show (combD F S ⟨4, pl, ld, nm, ot, dy, pr, rl, rh⟩).1 = 8 by
      have h5 := of_decide_eq_false H5.out
      unfold combD; dsimp only; rw [if_neg (by rw [HIX.out]; omega), if_pos (by rw [HXH.out]; exact h5)])
    obtain ⟨rr0, rr1, rr2, rr3, rr4, rr5⟩ := zero_cells KR3.out
    have rrl := KR3.out.lt
    have rrz0 := KR3.out.frozen 0
    have rrz1 := KR3.out.frozen 1
    have rrz2 := KR3.out.frozen 2
    have rrz3 := KR3.out.frozen 3
    have rrz4 := KR3.out.frozen 4
    have rrz5 := KR3.out.frozen 5
    go_wp2_with fail
    refine put_end S KR3.out (Φ := bodyPost _ _ _ _ _) (fun wf ht kf => ?_)
    obtain ⟨g0, g1, g2, g3, g4, g5⟩ := sto_cells (S := S) kf
    exact bodyPost_ret (v := .tuple #[.agg #[.int .i64 S.year, .slice S.la S.last.length S.lc, .slice S.ga S.given.length S.gc, .slice S.ha S.heaps.length S.hc, .slice S.ua S.used.length S.uc, .slice S.wa S.waste.length S.wc], .int .i64 8]) (by simp [results, Tryz.results23, go_sem, g0, g1, g2, g3, g4, g5]) rfl (ChMade.err S HV.out (by decide) (HB3.out.far ht (fun k e => by rw [show k = w.heap.size + 1 + 1 + 1 from e]; omega)))
  | true =>
  have H3 := Lib.hid (of_decide_eq_true H5.out)
  have hlo : ∀ n, Calls Tryz.prog 46 #[.slice x.pa x.parts.length x.pc] (w3.drewN n) fun e w' => e = .returned (.int .i64 (loadsM x.parts)) ∧ w' = w3.drewN n := fun n => (refLoads_any F.ps.length x.pa x.pc x.parts _ ((HS3.out.parts x HXM.out).1.1.belowS (below_drewN' _ _ _)) HXO.out.1 HXO.out.2.2.1).mono fun _ _ ⟨a, b⟩ => ⟨a, b.symm⟩
  have HLO := Lib.hid hlo
  clear hlo
  obtain ⟨v, hv⟩ : ∃ v, loadsM x.parts = v := ⟨_, rfl⟩
  have HV0 := Lib.hid hv
  have HVB := Lib.hid HXO.out.2.2.2.1
  rw [hv] at HLO HVB
  have hwv : IntKind.i64.wrap (v - 1) = v - 1 := by have := HVB.out; rw [IntKind.wrap_i64]; omega
  obtain ⟨b6, hb6⟩ : ∃ b6, isFromB ld 0 (v - 1) = b6 := ⟨_, rfl⟩
  have H6 := Lib.hid hb6
  clear hv hb6
  go_upto_region 23 with fail
  go_quiet (first | (go_at_call 46; refine Calls.quiet_of_same (HLO.out _)) | (go_at_call 43; refine Calls.quiet_of_same (refIn_is H6.out _)))
  generalize hw5 : w3.drewN _ = w5
  have hb5 : Below w3.heap.size w3 w5 := by rw [← hw5]; exact below_drewN' _ _ _
  clear hw5 hwv
  clear f0 f1 fl d0 d1 d2 d3 d4 d5 dl c0 c1 c2 c3 c4 c5 c6 c7 c8 cl x0 x1 x2 x3 x4 x5 x6 xl
  have KF5 := Lib.hid (KF3.out.belowS hb5)
  have KS5 := Lib.hid (KS3.out.belowS hb5)
  have KA5 := Lib.hid (KA3.out.belowS hb5)
  have KR5 := Lib.hid (KR3.out.belowS hb5)
  have KH5 := Lib.hid (KH3.out.belowS hb5)
  have HB5 := Lib.hid (HB3.out.trans (Turn.of_below hb5))
  have HSZ5 := Lib.hid (Nat.le_trans HSZ3.out hb5.size)
  have HWZ5 := Lib.hid (Nat.le_trans HWZ3.out hb5.size)
  have HS5 := Lib.hid (HS3.out.below hb5)
  clear hb5 KF3 KS3 KA3 KR3 KH3 HS3
  obtain ⟨f0, f1⟩ := frm_cells KF5.out
  have fl := KF5.out.lt
  obtain ⟨d0, d1, d2, d3, d4, d5⟩ := sto_cells (S := S) KS5.out
  have dl := KS5.out.lt
  obtain ⟨c0, c1, c2, c3, c4, c5, c6, c7, c8⟩ := chr_cells KA5.out
  have cl := KA5.out.lt
  obtain ⟨x0, x1, x2, x3, x4, x5, x6⟩ := hepB_cells KH5.out
  have xl := KH5.out.lt
  cases b6 with
  | false =>
    have HV := Lib.hid (show (combD F S ⟨4, pl, ld, nm, ot, dy, pr, rl, rh⟩).1 = 1 by unfold combD; dsimp only; rw [if_neg (by rw [HIX.out]; omega), if_neg (by rw [HXH.out]; exact not_not_intro H3.out), if_pos (by rw [HXH.out, HV0.out]; exact H6.out)])
    obtain ⟨rr0, rr1, rr2, rr3, rr4, rr5⟩ := zero_cells KR5.out
    have rrl := KR5.out.lt
    have rrz0 := KR5.out.frozen 0
    have rrz1 := KR5.out.frozen 1
    have rrz2 := KR5.out.frozen 2
    have rrz3 := KR5.out.frozen 3
    have rrz4 := KR5.out.frozen 4
    have rrz5 := KR5.out.frozen 5
    go_wp2_with fail
    refine put_end S KR5.out (Φ := bodyPost _ _ _ _ _) (fun wf ht kf => ?_)
    obtain ⟨g0, g1, g2, g3, g4, g5⟩ := sto_cells (S := S) kf
    exact bodyPost_ret (v := .tuple #[.agg #[.int .i64 S.year, .slice S.la S.last.length S.lc, .slice S.ga S.given.length S.gc, .slice S.ha S.heaps.length S.hc, .slice S.ua S.used.length S.uc, .slice S.wa S.waste.length S.wc], .int .i64 1]) (by simp [results, Tryz.results23, go_sem, g0, g1, g2, g3, g4, g5]) rfl (ChMade.err S HV.out (by decide) (HB5.out.far ht (fun k e => by rw [show k = w.heap.size + 1 + 1 + 1 from e]; omega)))
  | true =>
  have HL := Lib.hid (isFromB_iff.1 H6.out)
  go_wp2_with fail
  refine (refCutF_any x.pa x.pc x.parts ld _ ((HS5.out.parts x HXM.out).1.1) (fun p hp => (HXO.out.1 p hp).2) HXO.out.2.2.1 HL.out.1 (by have := HL.out; have := HVB.out; omega)).mono ?_
  rintro e w6 ⟨⟨a1, n1, a2, n2, rfl, hG, hR⟩, hb⟩
  clear f0 f1 fl d0 d1 d2 d3 d4 d5 dl c0 c1 c2 c3 c4 c5 c6 c7 c8 cl x0 x1 x2 x3 x4 x5 x6 xl
  have KF6 := Lib.hid (KF5.out.belowS hb)
  have KS6 := Lib.hid (KS5.out.belowS hb)
  have KA6 := Lib.hid (KA5.out.belowS hb)
  have KR6 := Lib.hid (KR5.out.belowS hb)
  have KH6 := Lib.hid (KH5.out.belowS hb)
  have HB6 := Lib.hid (HB5.out.trans (Turn.of_below hb))
  have HSZ6 := Lib.hid (Nat.le_trans HSZ5.out hb.size)
  have HWZ6 := Lib.hid (Nat.le_trans HWZ5.out hb.size)
  have HS6 := Lib.hid (HS5.out.below hb)
  have HGN := Lib.hid (show NewP w5 w6 a1 n1 (cutT ld x.parts) from hG)
  have HRN := Lib.hid (show NewP w5 w6 a2 n2 (cutR ld x.parts) from hR)
  have HC2 := Lib.hid (show Cool base w6 S a2 from HS5.out.cool HSZ5.out hR.2)
  have HGL := Lib.hid (cutT_len x.parts ld)
  have HGO := Lib.hid (show ∀ p ∈ cutT ld x.parts, 1 ≤ p.loads ∧ p.loads ≤ 100000 from fun p hp => (cutT_okN HXO.out.1 p hp).2)
  have HRE := Lib.hid (show cutR ld x.parts ≠ [] from fun e => by
    have h1 := (rest_nil (l := x.parts) (fun p hp => (HXO.out.1 p hp).2.1) HL.out.1 (by rw [HV0.out]; have := HL.out; omega)).1 e
    rw [HV0.out] at h1
    have := HL.out
    omega)
  obtain ⟨G, hGG⟩ : ∃ G, cutT ld x.parts = G := ⟨_, rfl⟩
  obtain ⟨R, hRR⟩ : ∃ R, cutR ld x.parts = R := ⟨_, rfl⟩
  rw [hGG] at HGN HGL HGO ⊢
  rw [hRR] at HRN HRE ⊢
  have HGG := Lib.hid hGG
  have HRR := Lib.hid hRR
  clear hb hG hR hGG hRR KF5 KS5 KA5 KR5 KH5 HS5
  obtain ⟨f0, f1⟩ := frm_cells KF6.out
  have fl := KF6.out.lt
  obtain ⟨d0, d1, d2, d3, d4, d5⟩ := sto_cells (S := S) KS6.out
  have dl := KS6.out.lt
  obtain ⟨c0, c1, c2, c3, c4, c5, c6, c7, c8⟩ := chr_cells KA6.out
  have cl := KA6.out.lt
  obtain ⟨x0, x1, x2, x3, x4, x5, x6⟩ := hepB_cells KH6.out
  have xl := KH6.out.lt
  go_upto_region 26 with fail
  go_wp2_with fail
  refine (refJoined_any S.wa a1 S.wc n1 S.waste G _ (HS6.out.waste.1) (HGN.out.1) (fun p hp => by have := (HUO.out.2 p hp).2; omega) (HGO.out) (by have := HFIT.out.waste; omega) (by have := HGL.out; have := HXO.out.2.2.1; omega)).mono ?_
  rintro e w7 ⟨⟨aw, nw, rfl, hN⟩, hb⟩
  clear f0 f1 fl d0 d1 d2 d3 d4 d5 dl c0 c1 c2 c3 c4 c5 c6 c7 c8 cl x0 x1 x2 x3 x4 x5 x6 xl
  have KF7 := Lib.hid (KF6.out.belowS hb)
  have KS7 := Lib.hid (KS6.out.belowS hb)
  have KA7 := Lib.hid (KA6.out.belowS hb)
  have KR7 := Lib.hid (KR6.out.belowS hb)
  have KH7 := Lib.hid (KH6.out.belowS hb)
  have HB7 := Lib.hid (HB6.out.trans (Turn.of_below hb))
  have HSZ7 := Lib.hid (Nat.le_trans HSZ6.out hb.size)
  have HWZ7 := Lib.hid (Nat.le_trans HWZ6.out hb.size)
  have HS7 := Lib.hid (HS6.out.below hb)
  have HN7 := Lib.hid (show NewP w6 w7 aw nw (putL S.waste G) from hN)
  have HC7 := Lib.hid (show Cool base w7 S aw from HS6.out.cool HSZ6.out hN.2)
  have HSZ67 := Lib.hid hb.size
  have HR7 := Lib.hid (HRN.out.1.belowS hb)
  obtain ⟨P, hPP⟩ : ∃ P, putL S.waste G = P := ⟨_, rfl⟩
  rw [hPP] at HN7 ⊢
  have HPP := Lib.hid hPP
  clear hb hN hPP KF6 KS6 KA6 KR6 KH6 HS6
  obtain ⟨f0, f1⟩ := frm_cells KF7.out
  have fl := KF7.out.lt
  obtain ⟨d0, d1, d2, d3, d4, d5⟩ := sto_cells (S := S) KS7.out
  have dl := KS7.out.lt
  obtain ⟨c0, c1, c2, c3, c4, c5, c6, c7, c8⟩ := chr_cells KA7.out
  have cl := KA7.out.lt
  obtain ⟨x0, x1, x2, x3, x4, x5, x6⟩ := hepB_cells KH7.out
  have xl := KH7.out.lt
  have dz := KS7.out.frozen 5
  go_upto_region 27 with fail
  have kf : Blk (w7.setCell ⟨w.heap.size + 1, 5, none⟩ (.slice aw P.length nw)) (w.heap.size + 1) #[.int .i64 S.year, .slice S.la S.last.length S.lc, .slice S.ga S.given.length S.gc, .slice S.ha S.heaps.length S.hc, .slice S.ua S.used.length S.uc, .slice aw P.length nw] 29 := KS7.out.set 5 _
  have ht : Turn (fun k => k = w.heap.size + 1) w7 (w7.setCell ⟨w.heap.size + 1, 5, none⟩ (.slice aw P.length nw)) := (Turn.of_below (X := fun k => k = w.heap.size + 1) (Below.refl _ w7)).setCell (B := w.heap.size + 1) rfl 5 _
  generalize (w7.setCell ⟨w.heap.size + 1, 5, none⟩ (.slice aw P.length nw)) = w8 at *
  clear f0 f1 fl d0 d1 d2 d3 d4 d5 dl c0 c1 c2 c3 c4 c5 c6 c7 c8 cl x0 x1 x2 x3 x4 x5 x6 xl
  clear dz
  have KS8 := Lib.hid kf
  have KF8 := Lib.hid (ht.blk KF7.out (fun e => by have := (show w.heap.size = w.heap.size + 1 from e); omega))
  have KA8 := Lib.hid (ht.blk KA7.out (fun e => by have := (show w.heap.size + 1 + 1 = w.heap.size + 1 from e); omega))
  have KR8 := Lib.hid (ht.blk KR7.out (fun e => by have := (show w.heap.size + 1 + 1 + 1 = w.heap.size + 1 from e); omega))
  have KH8 := Lib.hid (ht.blk KH7.out (fun e => by have := (show bh = w.heap.size + 1 from e); have := HBH0.out; omega))
  have HB8 := Lib.hid (HB7.out.far ht (fun k e => by rw [show k = w.heap.size + 1 from e]; omega))
  have HSZ8 := Lib.hid (Nat.le_trans HSZ7.out ht.size)
  have HWZ8 := Lib.hid (Nat.le_trans HWZ7.out ht.size)
  have HS8 := Lib.hid ((HS7.out.turnAt ht (HS.out.off (.inl (by omega)))).setWaste (a := aw) (c := nw) (l := P) (HN7.out.1.turn ht (fun k e e2 => by have := (HN7.out.2 k e).1; have := HWZ6.out; have := (show k = w.heap.size + 1 from e2); omega)) (HC7.out.mono ht.size))
  have HFA := Lib.hid (show FromN (w.heap.size + 4) aw from fun k e => by have := (HN7.out.2 k e).1; have := HWZ6.out; omega)
  have HR8 := Lib.hid (HR7.out.turn ht (fun k e e2 => by have := (HRN.out.2 k e).1; have := HWZ5.out; have := (show k = w.heap.size + 1 from e2); omega))
  have HC8 := Lib.hid (show Cool base w8 S a2 from (HC2.out.mono HSZ67.out).mono ht.size)
  clear kf ht KF7 KS7 KA7 KR7 KH7 HS7
  have hbd : Below w8.heap.size w8 w8.drew := (Below.refl _ w8).drew
  have KS9 := Lib.hid (KS8.out.belowS hbd)
  have KR9 := Lib.hid (KR8.out.belowS hbd)
  have HB9 := Lib.hid (HB8.out.trans (Turn.of_below hbd))
  have HSZ9 := Lib.hid (Nat.le_trans HSZ8.out hbd.size)
  have HWZ9 := Lib.hid (Nat.le_trans HWZ8.out hbd.size)
  have HS9 := Lib.hid (HS8.out.below hbd)
  have HR9 := Lib.hid (HR8.out.belowS hbd)
  have HC9 := Lib.hid (show Cool base w8.drew { S with wa := aw, wc := nw, waste := P } a2 from fun k e => HC8.out.mono hbd.size k e)
  have HNMX := Lib.hid (HS.out.parts x HXM.out).1.2
  refine wp_region_E 12 (fun w' : World => w'.cell? ⟨w.heap.size + 1, 3, none⟩ = some (.slice (some ⟨g, 0, none⟩) S.heaps.length S.hc)) (by kernel_rfl) ?_
  generalize w8.drew = w9 at *
  clear hbd KS8 KR8 HS8 HR8 HC8
  have hx : (fun w' : World => w'.cell? ⟨w.heap.size + 1, 3, none⟩ = some (.slice (some ⟨g, 0, none⟩) S.heaps.length S.hc)) w9 := by
    have e3 := KS9.out.cell 3
    rw [HG.out] at e3
    exact e3
  obtain ⟨g', hg', hgb', hcap2, hcx2, hcs', hfz'⟩ := HS9.out.heapAt HX.out
  obtain rfl : g = g' := by rw [HG.out] at hg'; injection hg' with h; injection h
  have c3 : w9.cell? ⟨g, i * 7 + 3, none⟩ = some (.slice x.pa x.parts.length x.pc) := hcs' 3 _ rfl
  have z3 := hfz' (i * 7 + 3)
  have lg := hgb'.2
  clear hg' hgb' hcs' hfz' hcap2 hcx2
  refine tk 0 rfl hx (v := ?v1) (.inl ⟨by rfl, ?y1⟩) ?r1
  case y1 => intro w' h; (try dsimp only at h); go_simp; try with_reducible rfl
  refine tk 1 rfl hx (v := ?v2) (.inl ⟨by rfl, ?y2⟩) ?r2
  case y2 => intro w' h; (try dsimp only at h); go_simp; try with_reducible rfl
  refine tk 2 rfl hx (v := ?v3) (.inl ⟨by rfl, ?y3⟩) ?r3
  case y3 => intro w' h; (try dsimp only at h); go_simp; try with_reducible rfl
  try simp only [Act.put, List.getElem_toArray, List.getElem_cons_zero, List.getElem_cons_succ, List.setIfInBounds_toArray, List.set_cons_zero, List.set_cons_succ]
  refine tk 3 rfl hx (v := ?v4) (.inl ⟨by rfl, ?y4⟩) ?r4
  case y4 => intro w' h; (try dsimp only at h); go_simp; try with_reducible rfl
  refine tk 4 rfl hx (v := ?v5) (.inl ⟨by rfl, ?y5⟩) ?r5
  case y5 => intro w' h; (try dsimp only at h); go_simp; try with_reducible rfl
  refine tk 5 rfl hx (v := ?v6) (.inl ⟨by rfl, ?y6⟩) ?r6
  case y6 => intro w' h; (try dsimp only at h); go_simp; try with_reducible rfl
  try simp only [Act.put, List.getElem_toArray, List.getElem_cons_zero, List.getElem_cons_succ, List.setIfInBounds_toArray, List.set_cons_zero, List.set_cons_succ]
  refine tk 6 rfl hx (v := ?v7) (.inl ⟨by rfl, ?y7⟩) ?r7
  case y7 => intro w' h; (try dsimp only at h); go_simp; try with_reducible rfl
  try simp only [Act.put, List.getElem_toArray, List.getElem_cons_zero, List.getElem_cons_succ, List.setIfInBounds_toArray, List.set_cons_zero, List.set_cons_succ]
  refine E_step (i := 7) (o := _) (by kernel_rfl) rfl (fun K hK => ?_)
  go_simp
  refine hK.out _ _ (fun _ => hx) ?_
  clear hK K
  try simp only [Act.put, List.getElem_toArray, List.getElem_cons_zero, List.getElem_cons_succ, List.setIfInBounds_toArray, List.set_cons_zero, List.set_cons_succ]
  refine tk 8 rfl hx (v := ?v8) (.inl ⟨by rfl, ?y8⟩) ?r8
  case y8 => intro w' h; (try dsimp only at h); go_simp; try with_reducible rfl
  try simp only [Act.put, List.getElem_toArray, List.getElem_cons_zero, List.getElem_cons_succ, List.setIfInBounds_toArray, List.set_cons_zero, List.set_cons_succ]
  refine E_step (i := 9) (o := _) (by kernel_rfl) rfl (fun K hK => ?_)
  go_simp
  have ht : Turn (fun k => k = g) w9 (w9.setCell ⟨g, i * 7 + 3, none⟩ (.slice a2 R.length n2)) := (Turn.of_below (X := fun k => k = g) (Below.refl _ w9)).setCell (B := g) rfl _ _
  have KS10 := Lib.hid (ht.blk KS9.out (fun e => by have := HGB.out; have := (show w.heap.size + 1 = g from e); omega))
  have KR10 := Lib.hid (ht.blk KR9.out (fun e => by have := HGB.out; have := (show w.heap.size + 1 + 1 + 1 = g from e); omega))
  have HB10 := Lib.hid (HB9.out.trans2 ht (fun k e => .inl (.inr (.inr (by rw [HG.out, show k = g from e]; rfl)))))
  have HWZ10 := Lib.hid (Nat.le_trans HWZ9.out ht.size)
  have hx10 : (fun w' : World => w'.cell? ⟨w.heap.size + 1, 3, none⟩ = some (.slice (some ⟨g, 0, none⟩) S.heaps.length S.hc)) (w9.setCell ⟨g, i * 7 + 3, none⟩ (.slice a2 R.length n2)) := by
    have e3 := KS10.out.cell 3
    rw [HG.out] at e3
    exact e3
  have hT := HS9.out.write (i := i) (x := x) (j := 3) (y := { x with pa := a2, pc := n2, parts := R }) (v := .slice a2 R.length n2) HX.out HG.out (by omega) rfl ⟨HR9.out, HNMX.out⟩ HC9.out
  have HR10 := Lib.hid (HR9.out.turn ht (fun k e e2 => by have := (HRN.out.2 k e).1; have := HWZ5.out; have := HGB.out; have := (show k = g from e2); omega))
  have HC10 := Lib.hid (HC9.out.mono ht.size)
  have HT10 := Lib.hid hT
  obtain ⟨g', hg', hgb', _, _, hcs', hfz'⟩ := HT10.out.heapAt (i := i) (x := { x with pa := a2, pc := n2, parts := R }) (by rw [List.getElem?_set_self HIL.out])
  obtain rfl : g = g' := by rw [HG.out] at hg'; injection hg' with h; injection h
  have e2 : (w9.setCell ⟨g, i * 7 + 3, none⟩ (.slice a2 R.length n2)).cell? ⟨g, i * 7 + 2, none⟩ = some (.int .i64 x.stage) := hcs' 2 _ rfl
  have ez2 := hfz' (i * 7 + 2)
  have lg2 := hgb'.2
  clear hg' hgb' hcs' hfz' hT ht c3 z3 lg hx KS9 KR9
  generalize (w9.setCell ⟨g, i * 7 + 3, none⟩ (.slice a2 R.length n2)) = w10 at *
  refine hK.out _ _ (fun _ => hx10) ?_
  clear hK K
  try simp only [Act.put, List.getElem_toArray, List.getElem_cons_zero, List.getElem_cons_succ, List.setIfInBounds_toArray, List.set_cons_zero, List.set_cons_succ]
  refine E_step (i := 10) (o := _) (by kernel_rfl) rfl (fun K hK => ?_)
  go_simp
  refine hK.out _ _ (fun _ => hx10) ?_
  clear hK K
  try simp only [Act.put, List.getElem_toArray, List.getElem_cons_zero, List.getElem_cons_succ, List.setIfInBounds_toArray, List.set_cons_zero, List.set_cons_succ]
  refine tk 11 rfl hx10 (v := ?v9) (.inl ⟨by rfl, ?y9⟩) ?r9
  case y9 => intro w' h; (try dsimp only at h); go_simp; try with_reducible rfl
  try simp only [Act.put, List.getElem_toArray, List.getElem_cons_zero, List.getElem_cons_succ, List.setIfInBounds_toArray, List.set_cons_zero, List.set_cons_succ]
  refine E_step (i := 12) (o := _) (by kernel_rfl) rfl (fun K hK => ?_)
  go_simp
  refine hK.out _ _ (fun h => absurd rfl h) ?_
  clear hK K
  try simp only [Act.put, List.getElem_toArray, List.getElem_cons_zero, List.getElem_cons_succ, List.setIfInBounds_toArray, List.set_cons_zero, List.set_cons_succ]
  refine E_done (by kernel_rfl) ?_ _
  have ht : Turn (fun k => k = g) w10 (w10.setCell ⟨g, i * 7 + 2, none⟩ (.int .i64 2)) := (Turn.of_below (X := fun k => k = g) (Below.refl _ w10)).setCell (B := g) rfl _ _
  have KS11 := Lib.hid (ht.blk KS10.out (fun e => by have := HGB.out; have := (show w.heap.size + 1 = g from e); omega))
  have KR11 := Lib.hid (ht.blk KR10.out (fun e => by have := HGB.out; have := (show w.heap.size + 1 + 1 + 1 = g from e); omega))
  have HB11 := Lib.hid (HB10.out.trans2 ht (fun k e => .inl (.inr (.inr (by rw [HG.out, show k = g from e]; rfl)))))
  have HWZ11 := Lib.hid (Nat.le_trans HWZ10.out ht.size)
  have hT := HT10.out.write (i := i) (x := { x with pa := a2, pc := n2, parts := R }) (j := 2) (y := { x with pa := a2, pc := n2, parts := R, stage := 2 }) (v := .int .i64 2) (by rw [List.getElem?_set_self HIL.out]) HG.out (by omega) rfl ⟨HR10.out, HNMX.out⟩ (fun k e => HC10.out k e)
  dsimp only at hT
  rw [List.set_set] at hT
  have HS11 := Lib.hid hT
  clear hT ht e2 ez2 lg2 hx10
  generalize (w10.setCell ⟨g, i * 7 + 2, none⟩ (.int .i64 2)) = w11 at *
  have HV := Lib.hid (show (combD F S ⟨4, pl, ld, nm, ot, dy, pr, rl, rh⟩) = (0, { S with waste := P, heaps := S.heaps.set i { x with parts := R, stage := 2 } }) by
    have h2 : moveH (S.heaps.set i { x with stage := 2 }) i ld = S.heaps.set i { x with parts := R, stage := 2 } := by
      unfold moveH
      rw [List.getElem?_set_self HIL.out]
      dsimp only
      rw [if_neg (by rw [HRR.out]; exact HRE.out), HRR.out, List.set_set]
    unfold combD
    dsimp only
    rw [if_neg (by rw [HIX.out]; omega), if_neg (by rw [HXH.out]; exact not_not_intro H3.out), if_neg (by rw [HXH.out, HV0.out, H6.out]; decide), HXH.out, HIX.out, Int.toNat_natCast, HGG.out, HPP.out, h2])
  have HSM := Lib.hid (same_set S.heaps i (x := { x with pa := a2, pc := n2, parts := R, stage := 2 }) (y := { x with parts := R, stage := 2 }) ⟨rfl, rfl, rfl, rfl, rfl, rfl, rfl⟩)
  have HLH := Lib.hid (show (S.heaps.set i { x with pa := a2, pc := n2, parts := R, stage := 2 }).length = S.heaps.length from List.length_set ..)
  have HEI := Lib.hid (show ∀ z ∈ S.heaps.set i { x with pa := a2, pc := n2, parts := R, stage := 2 }, z ∈ S.heaps ∨ z.pa = a2 from fun z hz => by
    rcases List.mem_or_eq_of_mem_set hz with hz | rfl
    · exact .inl hz
    · exact .inr rfl)
  generalize S.heaps.set i { x with pa := a2, pc := n2, parts := R, stage := 2 } = H at *
  obtain ⟨d0, d1, d2, d3, d4, d5⟩ := (show w11.cell? ⟨w.heap.size + 1, 0, none⟩ = some (.int .i64 S.year) ∧ w11.cell? ⟨w.heap.size + 1, 1, none⟩ = some (.slice S.la S.last.length S.lc) ∧ w11.cell? ⟨w.heap.size + 1, 2, none⟩ = some (.slice S.ga S.given.length S.gc) ∧ w11.cell? ⟨w.heap.size + 1, 3, none⟩ = some (.slice S.ha S.heaps.length S.hc) ∧ w11.cell? ⟨w.heap.size + 1, 4, none⟩ = some (.slice S.ua S.used.length S.uc) ∧ w11.cell? ⟨w.heap.size + 1, 5, none⟩ = some (.slice aw P.length nw) from ⟨KS11.out.cell 0, KS11.out.cell 1, KS11.out.cell 2, KS11.out.cell 3, KS11.out.cell 4, KS11.out.cell 5⟩)
  have dl := KS11.out.lt
  obtain ⟨rr0, rr1, rr2, rr3, rr4, rr5⟩ := zero_cells KR11.out
  have rrl := KR11.out.lt
  have rrz0 := KR11.out.frozen 0
  have rrz1 := KR11.out.frozen 1
  have rrz2 := KR11.out.frozen 2
  have rrz3 := KR11.out.frozen 3
  have rrz4 := KR11.out.frozen 4
  have rrz5 := KR11.out.frozen 5
  go_wp2_with fail
  have kf : Blk ((((((w11.setCell ⟨w.heap.size + 1 + 1 + 1, 0, none⟩ (.int .i64 S.year)).setCell ⟨w.heap.size + 1 + 1 + 1, 1, none⟩ (.slice S.la S.last.length S.lc)).setCell ⟨w.heap.size + 1 + 1 + 1, 2, none⟩ (.slice S.ga S.given.length S.gc)).setCell ⟨w.heap.size + 1 + 1 + 1, 3, none⟩ (.slice S.ha S.heaps.length S.hc)).setCell ⟨w.heap.size + 1 + 1 + 1, 4, none⟩ (.slice S.ua S.used.length S.uc)).setCell ⟨w.heap.size + 1 + 1 + 1, 5, none⟩ (.slice aw P.length nw)) (w.heap.size + 1 + 1 + 1) #[.int .i64 S.year, .slice S.la S.last.length S.lc, .slice S.ga S.given.length S.gc, .slice S.ha S.heaps.length S.hc, .slice S.ua S.used.length S.uc, .slice aw P.length nw] 29 := ((((((KR11.out.set 0 (.int .i64 S.year)).set 1 (.slice S.la S.last.length S.lc)).set 2 (.slice S.ga S.given.length S.gc)).set 3 (.slice S.ha S.heaps.length S.hc)).set 4 (.slice S.ua S.used.length S.uc)).set 5 (.slice aw P.length nw))
  have ht : Turn (fun k => k = w.heap.size + 1 + 1 + 1) w11 ((((((w11.setCell ⟨w.heap.size + 1 + 1 + 1, 0, none⟩ (.int .i64 S.year)).setCell ⟨w.heap.size + 1 + 1 + 1, 1, none⟩ (.slice S.la S.last.length S.lc)).setCell ⟨w.heap.size + 1 + 1 + 1, 2, none⟩ (.slice S.ga S.given.length S.gc)).setCell ⟨w.heap.size + 1 + 1 + 1, 3, none⟩ (.slice S.ha S.heaps.length S.hc)).setCell ⟨w.heap.size + 1 + 1 + 1, 4, none⟩ (.slice S.ua S.used.length S.uc)).setCell ⟨w.heap.size + 1 + 1 + 1, 5, none⟩ (.slice aw P.length nw)) := (((((((Turn.of_below (X := fun k => k = w.heap.size + 1 + 1 + 1) (Below.refl _ w11)).setCell (B := w.heap.size + 1 + 1 + 1) rfl 0 (.int .i64 S.year)).setCell (B := w.heap.size + 1 + 1 + 1) rfl 1 (.slice S.la S.last.length S.lc)).setCell (B := w.heap.size + 1 + 1 + 1) rfl 2 (.slice S.ga S.given.length S.gc)).setCell (B := w.heap.size + 1 + 1 + 1) rfl 3 (.slice S.ha S.heaps.length S.hc)).setCell (B := w.heap.size + 1 + 1 + 1) rfl 4 (.slice S.ua S.used.length S.uc)).setCell (B := w.heap.size + 1 + 1 + 1) rfl 5 (.slice aw P.length nw))
  generalize ((((((w11.setCell ⟨w.heap.size + 1 + 1 + 1, 0, none⟩ (.int .i64 S.year)).setCell ⟨w.heap.size + 1 + 1 + 1, 1, none⟩ (.slice S.la S.last.length S.lc)).setCell ⟨w.heap.size + 1 + 1 + 1, 2, none⟩ (.slice S.ga S.given.length S.gc)).setCell ⟨w.heap.size + 1 + 1 + 1, 3, none⟩ (.slice S.ha S.heaps.length S.hc)).setCell ⟨w.heap.size + 1 + 1 + 1, 4, none⟩ (.slice S.ua S.used.length S.uc)).setCell ⟨w.heap.size + 1 + 1 + 1, 5, none⟩ (.slice aw P.length nw)) = wf at *
  obtain ⟨g0, g1, g2, g3, g4, g5⟩ := (show wf.cell? ⟨w.heap.size + 1 + 1 + 1, 0, none⟩ = some (.int .i64 S.year) ∧ wf.cell? ⟨w.heap.size + 1 + 1 + 1, 1, none⟩ = some (.slice S.la S.last.length S.lc) ∧ wf.cell? ⟨w.heap.size + 1 + 1 + 1, 2, none⟩ = some (.slice S.ga S.given.length S.gc) ∧ wf.cell? ⟨w.heap.size + 1 + 1 + 1, 3, none⟩ = some (.slice S.ha S.heaps.length S.hc) ∧ wf.cell? ⟨w.heap.size + 1 + 1 + 1, 4, none⟩ = some (.slice S.ua S.used.length S.uc) ∧ wf.cell? ⟨w.heap.size + 1 + 1 + 1, 5, none⟩ = some (.slice aw P.length nw) from ⟨kf.cell 0, kf.cell 1, kf.cell 2, kf.cell 3, kf.cell 4, kf.cell 5⟩)
  have hoff : OffTo (w.heap.size + 4) S { S with wa := aw, wc := nw, waste := P, heaps := H } := fun B hB ho => ⟨ho.la, ho.ga, ho.ha, ho.ua, fun e => by have := HFA.out B e; omega, fun z hz => by
    rcases HEI.out z hz with h | h
    · exact ho.pa z h
    · rw [h]
      intro e
      have := (HRN.out.2 B e).1
      have := HWZ5.out
      omega⟩
  refine bodyPost_ret (v := .tuple #[.agg #[.int .i64 S.year, .slice S.la S.last.length S.lc, .slice S.ga S.given.length S.gc, .slice S.ha S.heaps.length S.hc, .slice S.ua S.used.length S.uc, .slice aw P.length nw], .int .i64 0]) (by simp [results, Tryz.results23, go_sem, g0, g1, g2, g3, g4, g5]) rfl ⟨⟨{ S with wa := aw, wc := nw, waste := P, heaps := H }, by rw [HV.out]; simp only [stoV, HLH.out], fun _ => ⟨(HS11.out).turnAt ht (hoff _ (by omega) (HS.out.off (.inl (by omega)))), ?_, fun B hB ho => hoff B (by omega) ho⟩⟩, HB11.out.far ht (fun k e => by rw [show k = w.heap.size + 1 + 1 + 1 from e]; omega)⟩
  rw [HV.out]
  exact ⟨rfl, rfl, rfl, rfl, rfl, HSM.out.1, HSM.out.2⟩
end
end Go.Proofs.YtfhalmlpnoepcaaGreat
namespace Go.Proofs.YtfhalmlpnoepcaaGreat
section
set_option linter.unusedSimpArgs false
open Go.RowKit

set_option maxRecDepth 100000 in
set_option maxHeartbeats 32000000 in
theorem refDone3_any (base : Nat) (F : Frm) (S : Sto) (pl ld : Int) (nm ot : ByteArray) (dy pr rl rh : Int) (w : World) (hF : ∀ w', Below base w w' → IsFarm w' F) (hS : Rst base w S) (hbase : base ≤ w.heap.size) (hE : storeE F S = 0) (hfit : S.fit) (hnm : nm.size ≤ maxLen) (hno : ot.size ≤ maxLen) :
    Calls Tryz.prog 23 #[.agg #[.slice F.pa F.ps.length F.pc, .int .i64 F.dry], .agg #[.int .i64 S.year, .slice S.la S.last.length S.lc, .slice S.ga S.given.length S.gc, .slice S.ha S.heaps.length S.hc, .slice S.ua S.used.length S.uc, .slice S.wa S.waste.length S.wc], .agg #[.int .i64 3, .int .i64 pl, .int .i64 ld, .string nm, .string ot, .int .i64 dy, .int .i64 pr, .int .i64 rl, .int .i64 rh]] w (ChMade base S (dryD S ⟨3, pl, ld, nm, ot, dy, pr, rl, rh⟩) w) := by
  have HF := Lib.hid (show FarmAt base w F from hF)
  have HS := Lib.hid hS
  have HBASE := Lib.hid hbase
  have HE := Lib.hid hE
  have HFIT := Lib.hid hfit
  have HNM := Lib.hid hnm
  have HNO := Lib.hid hno
  have HUO := Lib.hid (show (∀ p ∈ S.used, p.ok F.ps.length) ∧ (∀ p ∈ S.waste, p.ok F.ps.length) from ⟨partsB_ok (store_ok hE).2.2.1, partsB_ok (store_ok hE).2.2.2.1⟩)
  have HYR := Lib.hid (years_ok hE).1
  clear hF hS hbase hE hfit hnm hno
  go_enter Tryz.func23, Tryz.ntmps23
  go_upto_region 1 with fail
  generalize hw1 : ((((w.alloc (.cells #[.slice F.pa F.ps.length F.pc, .int .i64 F.dry] 24)).alloc (.cells #[.int .i64 S.year, .slice S.la S.last.length S.lc, .slice S.ga S.given.length S.gc, .slice S.ha S.heaps.length S.hc, .slice S.ua S.used.length S.uc, .slice S.wa S.waste.length S.wc] 29)).alloc (.cells #[.int .i64 3, .int .i64 pl, .int .i64 ld, .string nm, .string ot, .int .i64 dy, .int .i64 pr, .int .i64 rl, .int .i64 rh] 34)).alloc (.cells #[.int .i64 0, .slice none 0 0, .slice none 0 0, .slice none 0 0, .slice none 0 0, .slice none 0 0] 29)) = w1
  obtain ⟨k1, k2, k3, k4, hb1⟩ := four_boxes w F S 3 pl ld nm ot dy pr rl rh _ _ _ w1 hw1.symm
  clear hw1
  have HB1 := Lib.hid (show Turn (Hot S) w w1 from Turn.of_below hb1)
  have HSZ1 := Lib.hid (Nat.le_trans HBASE.out hb1.size)
  have HWZ1 := Lib.hid (show w.heap.size + 4 ≤ w1.heap.size from k4.lt)
  have KF1 := Lib.hid k1
  have KS1 := Lib.hid k2
  have KA1 := Lib.hid k3
  have KR1 := Lib.hid k4
  have HS1 := Lib.hid (HS.out.below hb1)
  clear k1 k2 k3 k4 hb1
  obtain ⟨f0, f1⟩ := frm_cells KF1.out
  have fl := KF1.out.lt
  obtain ⟨d0, d1, d2, d3, d4, d5⟩ := sto_cells (S := S) KS1.out
  have dl := KS1.out.lt
  obtain ⟨c0, c1, c2, c3, c4, c5, c6, c7, c8⟩ := chr_cells KA1.out
  have cl := KA1.out.lt
  go_wp2_with fail
  refine (refAt_any S nm _ (HS1.out.store.heaps)).mono ?_
  rintro e w2 ⟨rfl, hb⟩
  clear f0 f1 fl d0 d1 d2 d3 d4 d5 dl c0 c1 c2 c3 c4 c5 c6 c7 c8 cl
  have KF2 := Lib.hid (KF1.out.belowS hb)
  have KS2 := Lib.hid (KS1.out.belowS hb)
  have KA2 := Lib.hid (KA1.out.belowS hb)
  have KR2 := Lib.hid (KR1.out.belowS hb)
  have HB2 := Lib.hid (HB1.out.trans (Turn.of_below hb))
  have HSZ2 := Lib.hid (Nat.le_trans HSZ1.out hb.size)
  have HWZ2 := Lib.hid (Nat.le_trans HWZ1.out hb.size)
  have HS2 := Lib.hid (HS1.out.below hb)
  clear hb KF1 KS1 KA1 KR1 HS1
  obtain ⟨ix, hix⟩ : ∃ ix, idxH S.heaps nm = ix := ⟨_, rfl⟩
  have HIX := Lib.hid hix
  rw [hix]
  clear hix
  obtain ⟨f0, f1⟩ := frm_cells KF2.out
  have fl := KF2.out.lt
  obtain ⟨d0, d1, d2, d3, d4, d5⟩ := sto_cells (S := S) KS2.out
  have dl := KS2.out.lt
  obtain ⟨c0, c1, c2, c3, c4, c5, c6, c7, c8⟩ := chr_cells KA2.out
  have cl := KA2.out.lt
  by_cases h3 : ix < 0
  · have HV := Lib.hid (show (dryD S ⟨3, pl, ld, nm, ot, dy, pr, rl, rh⟩).1 = 7 by unfold dryD; rw [if_pos (by dsimp only; rw [HIX.out]; exact h3)])
    obtain ⟨rr0, rr1, rr2, rr3, rr4, rr5⟩ := zero_cells KR2.out
    have rrl := KR2.out.lt
    have rrz0 := KR2.out.frozen 0
    have rrz1 := KR2.out.frozen 1
    have rrz2 := KR2.out.frozen 2
    have rrz3 := KR2.out.frozen 3
    have rrz4 := KR2.out.frozen 4
    have rrz5 := KR2.out.frozen 5
    go_wp2_with fail
    refine put_end S KR2.out (Φ := bodyPost _ _ _ _ _) (fun wf ht kf => ?_)
    obtain ⟨g0, g1, g2, g3, g4, g5⟩ := sto_cells (S := S) kf
    exact bodyPost_ret (v := .tuple #[.agg #[.int .i64 S.year, .slice S.la S.last.length S.lc, .slice S.ga S.given.length S.gc, .slice S.ha S.heaps.length S.hc, .slice S.ua S.used.length S.uc, .slice S.wa S.waste.length S.wc], .int .i64 7]) (by simp [results, Tryz.results23, go_sem, g0, g1, g2, g3, g4, g5]) rfl (ChMade.err S HV.out (by decide) (HB2.out.far ht (fun k e => by rw [show k = w.heap.size + 1 + 1 + 1 from e]; omega)))
  have hix2 := idxH_at (show 0 ≤ idxH S.heaps nm by rw [HIX.out]; omega)
  obtain ⟨i, x, hm1, hm2, hm3, _⟩ := hix2
  obtain rfl : ix = (i : Int) := by rw [← HIX.out, hm1]
  have HXH := Lib.hid (hepAt_of hm1 hm3)
  have HX := Lib.hid hm3
  have HXM := Lib.hid (List.mem_of_getElem? hm3)
  have HXO := Lib.hid (heap_ok HE.out HFIT.out (List.mem_of_getElem? hm3))
  have HIL := Lib.hid hm2
  have HNI := Lib.hid (show ¬ idxH S.heaps nm < 0 by rw [HIX.out]; exact h3)
  have hi0 : (0 : Int) ≤ (i : Int) := Int.natCast_nonneg _
  have hi1 : (i : Int) < (S.heaps.length : Int) := by omega
  clear hm1 hm2 hm3 h3
  obtain ⟨g, hg, hgb, hcap, hcx, hcs, _⟩ := HS2.out.heapAt HX.out
  have HG := Lib.hid hg
  have HGB := Lib.hid (show base ≤ g ∧ g < w.heap.size from own_geq HS.out.heaps (k := g) (by rw [hg]; rfl))
  have v0 : w2.cell? ⟨g, i * 7, none⟩ = some (.string x.name) := hcs 0 _ rfl
  have v1 : w2.cell? ⟨g, i * 7 + 1, none⟩ = some (.int .i64 x.crop) := hcs 1 _ rfl
  have v2 : w2.cell? ⟨g, i * 7 + 2, none⟩ = some (.int .i64 x.stage) := hcs 2 _ rfl
  have v3 : w2.cell? ⟨g, i * 7 + 3, none⟩ = some (.slice x.pa x.parts.length x.pc) := hcs 3 _ rfl
  have v4 : w2.cell? ⟨g, i * 7 + 4, none⟩ = some (.int .i64 x.per) := hcs 4 _ rfl
  have v5 : w2.cell? ⟨g, i * 7 + 5, none⟩ = some (.int .i64 x.wlo) := hcs 5 _ rfl
  have v6 : w2.cell? ⟨g, i * 7 + 6, none⟩ = some (.int .i64 x.whi) := hcs 6 _ rfl
  have lg := hgb.2
  rw [hg] at d3
  have kX := Blk.new w2 53 #[.string x.name, .int .i64 x.crop, .int .i64 x.stage, .slice x.pa x.parts.length x.pc, .int .i64 x.per, .int .i64 x.wlo, .int .i64 x.whi]
  have hb3 : Below w2.heap.size w2 (w2.alloc (.cells #[.string x.name, .int .i64 x.crop, .int .i64 x.stage, .slice x.pa x.parts.length x.pc, .int .i64 x.per, .int .i64 x.wlo, .int .i64 x.whi] 53)) := (Below.refl _ w2).alloc (Nat.le_refl _) _
  clear hg hcs hgb
  go_upto_region 13 with fail
  clear v0 v1 v2 v3 v4 v5 v6 lg hcap hcx
  clear f0 f1 fl d0 d1 d2 d3 d4 d5 dl c0 c1 c2 c3 c4 c5 c6 c7 c8 cl
  have KF3 := Lib.hid (KF2.out.belowS hb3)
  have KS3 := Lib.hid (KS2.out.belowS hb3)
  have KA3 := Lib.hid (KA2.out.belowS hb3)
  have KR3 := Lib.hid (KR2.out.belowS hb3)
  have HB3 := Lib.hid (HB2.out.trans (Turn.of_below hb3))
  have HSZ3 := Lib.hid (Nat.le_trans HSZ2.out hb3.size)
  have HWZ3 := Lib.hid (Nat.le_trans HWZ2.out hb3.size)
  have HS3 := Lib.hid (HS2.out.below hb3)
  generalize w2.alloc (.cells #[.string x.name, .int .i64 x.crop, .int .i64 x.stage, .slice x.pa x.parts.length x.pc, .int .i64 x.per, .int .i64 x.wlo, .int .i64 x.whi] 53) = w3 at *
  have HBH0 := Lib.hid HWZ2.out
  obtain ⟨bh, hbh⟩ : ∃ bh, bh = w2.heap.size := ⟨_, rfl⟩
  rw [← hbh] at kX HBH0 ⊢
  clear hbh hb3 KF2 KS2 KA2 KR2 HS2
  have KH3 := Lib.hid kX
  clear kX
  obtain ⟨f0, f1⟩ := frm_cells KF3.out
  have fl := KF3.out.lt
  obtain ⟨d0, d1, d2, d3, d4, d5⟩ := sto_cells (S := S) KS3.out
  have dl := KS3.out.lt
  obtain ⟨c0, c1, c2, c3, c4, c5, c6, c7, c8⟩ := chr_cells KA3.out
  have cl := KA3.out.lt
  obtain ⟨x0, x1, x2, x3, x4, x5, x6⟩ := hepB_cells KH3.out
  have xl := KH3.out.lt
  by_cases h4 : x.stage = 3
  · have q1 : (x.stage == 3) = true := by simp [h4]
    have HV := Lib.hid (show (dryD S ⟨3, pl, ld, nm, ot, dy, pr, rl, rh⟩).1 = 8 by unfold dryD; dsimp only; rw [if_neg (by rw [HIX.out]; omega), if_pos (by rw [HXH.out]; exact h4)])
    clear h4
    obtain ⟨rr0, rr1, rr2, rr3, rr4, rr5⟩ := zero_cells KR3.out
    have rrl := KR3.out.lt
    have rrz0 := KR3.out.frozen 0
    have rrz1 := KR3.out.frozen 1
    have rrz2 := KR3.out.frozen 2
    have rrz3 := KR3.out.frozen 3
    have rrz4 := KR3.out.frozen 4
    have rrz5 := KR3.out.frozen 5
    go_wp2_with fail
    refine put_end S KR3.out (Φ := bodyPost _ _ _ _ _) (fun wf ht kf => ?_)
    obtain ⟨g0, g1, g2, g3, g4, g5⟩ := sto_cells (S := S) kf
    exact bodyPost_ret (v := .tuple #[.agg #[.int .i64 S.year, .slice S.la S.last.length S.lc, .slice S.ga S.given.length S.gc, .slice S.ha S.heaps.length S.hc, .slice S.ua S.used.length S.uc, .slice S.wa S.waste.length S.wc], .int .i64 8]) (by simp [results, Tryz.results23, go_sem, g0, g1, g2, g3, g4, g5]) rfl (ChMade.err S HV.out (by decide) (HB3.out.far ht (fun k e => by rw [show k = w.heap.size + 1 + 1 + 1 from e]; omega)))
  have q1 : (x.stage == 3) = false := by simp [h4]
  have H4 := Lib.hid h4
  clear h4
  go_wp2_with fail
  refine (refIn_any _ _ _ _).mono ?_
  rintro e w4 ⟨rfl, rfl⟩
  clear q1
  obtain ⟨b1, hb1⟩ : ∃ b1, isFromB dy 0 365 = b1 := ⟨_, rfl⟩
  have H1 := Lib.hid hb1
  rw [hb1]
  clear hb1
  cases b1 with
  | false =>
    have HV := Lib.hid (show (dryD S ⟨3, pl, ld, nm, ot, dy, pr, rl, rh⟩).1 = 1 by unfold dryD; dsimp only; rw [if_neg (by rw [HIX.out]; omega), if_neg (by rw [HXH.out]; exact H4.out), if_pos (fun h => by have h1 := h.1; rw [H1.out] at h1; cases h1)])
    obtain ⟨rr0, rr1, rr2, rr3, rr4, rr5⟩ := zero_cells KR3.out
    have rrl := KR3.out.lt
    have rrz0 := KR3.out.frozen 0
    have rrz1 := KR3.out.frozen 1
    have rrz2 := KR3.out.frozen 2
    have rrz3 := KR3.out.frozen 3
    have rrz4 := KR3.out.frozen 4
    have rrz5 := KR3.out.frozen 5
    go_wp2_with fail
    refine put_end S KR3.out (Φ := bodyPost _ _ _ _ _) (fun wf ht kf => ?_)
    obtain ⟨g0, g1, g2, g3, g4, g5⟩ := sto_cells (S := S) kf
    exact bodyPost_ret (v := .tuple #[.agg #[.int .i64 S.year, .slice S.la S.last.length S.lc, .slice S.ga S.given.length S.gc, .slice S.ha S.heaps.length S.hc, .slice S.ua S.used.length S.uc, .slice S.wa S.waste.length S.wc], .int .i64 1]) (by simp [results, Tryz.results23, go_sem, g0, g1, g2, g3, g4, g5]) rfl (ChMade.err S HV.out (by decide) (HB3.out.far ht (fun k e => by rw [show k = w.heap.size + 1 + 1 + 1 from e]; omega)))
  | true =>
  go_wp2_with fail
  refine (refSpan_any rl rh 0 100 _).mono ?_
  rintro e w4 ⟨rfl, hb⟩
  clear f0 f1 fl d0 d1 d2 d3 d4 d5 dl c0 c1 c2 c3 c4 c5 c6 c7 c8 cl x0 x1 x2 x3 x4 x5 x6 xl
  have KF4 := Lib.hid (KF3.out.belowS hb)
  have KS4 := Lib.hid (KS3.out.belowS hb)
  have KA4 := Lib.hid (KA3.out.belowS hb)
  have KR4 := Lib.hid (KR3.out.belowS hb)
  have KH4 := Lib.hid (KH3.out.belowS hb)
  have HB4 := Lib.hid (HB3.out.trans (Turn.of_below hb))
  have HSZ4 := Lib.hid (Nat.le_trans HSZ3.out hb.size)
  have HWZ4 := Lib.hid (Nat.le_trans HWZ3.out hb.size)
  have HS4 := Lib.hid (HS3.out.below hb)
  clear hb KF3 KS3 KA3 KR3 KH3 HS3
  obtain ⟨b2, hb2⟩ : ∃ b2, isSpanB rl rh 0 100 = b2 := ⟨_, rfl⟩
  have H2 := Lib.hid hb2
  rw [hb2]
  clear hb2
  obtain ⟨f0, f1⟩ := frm_cells KF4.out
  have fl := KF4.out.lt
  obtain ⟨d0, d1, d2, d3, d4, d5⟩ := sto_cells (S := S) KS4.out
  have dl := KS4.out.lt
  obtain ⟨c0, c1, c2, c3, c4, c5, c6, c7, c8⟩ := chr_cells KA4.out
  have cl := KA4.out.lt
  obtain ⟨x0, x1, x2, x3, x4, x5, x6⟩ := hepB_cells KH4.out
  have xl := KH4.out.lt
  cases b2 with
  | false =>
    have HV := Lib.hid (show (dryD S ⟨3, pl, ld, nm, ot, dy, pr, rl, rh⟩).1 = 1 by unfold dryD; dsimp only; rw [if_neg (by rw [HIX.out]; omega), if_neg (by rw [HXH.out]; exact H4.out), if_pos (fun h => by have h1 := h.2; rw [H2.out] at h1; cases h1)])
    obtain ⟨rr0, rr1, rr2, rr3, rr4, rr5⟩ := zero_cells KR4.out
    have rrl := KR4.out.lt
    have rrz0 := KR4.out.frozen 0
    have rrz1 := KR4.out.frozen 1
    have rrz2 := KR4.out.frozen 2
    have rrz3 := KR4.out.frozen 3
    have rrz4 := KR4.out.frozen 4
    have rrz5 := KR4.out.frozen 5
    go_wp2_with fail
    refine put_end S KR4.out (Φ := bodyPost _ _ _ _ _) (fun wf ht kf => ?_)
    obtain ⟨g0, g1, g2, g3, g4, g5⟩ := sto_cells (S := S) kf
    exact bodyPost_ret (v := .tuple #[.agg #[.int .i64 S.year, .slice S.la S.last.length S.lc, .slice S.ga S.given.length S.gc, .slice S.ha S.heaps.length S.hc, .slice S.ua S.used.length S.uc, .slice S.wa S.waste.length S.wc], .int .i64 1]) (by simp [results, Tryz.results23, go_sem, g0, g1, g2, g3, g4, g5]) rfl (ChMade.err S HV.out (by decide) (HB4.out.far ht (fun k e => by rw [show k = w.heap.size + 1 + 1 + 1 from e]; omega)))
  | true =>
  have hd := isFromB_iff.1 H1.out
  have hr := isSpanB_iff.1 H2.out
  have hxb := HXO.out.2.2.2.2.2
  have n1 : IntKind.i64.wrap (20 * dy) = 20 * dy := by rw [IntKind.wrap_i64]; omega
  have n2 : IntKind.i64.wrap (x.wlo - 20 * dy) = x.wlo - 20 * dy := by rw [IntKind.wrap_i64]; omega
  have n3 : IntKind.i64.wrap (5 * rl) = 5 * rl := by rw [IntKind.wrap_i64]; omega
  have n4 : IntKind.i64.wrap (x.wlo - 20 * dy + 5 * rl) = x.wlo - 20 * dy + 5 * rl := by rw [IntKind.wrap_i64]; omega
  have m1 : IntKind.i64.wrap (10 * dy) = 10 * dy := by rw [IntKind.wrap_i64]; omega
  have m2 : IntKind.i64.wrap (x.whi - 10 * dy) = x.whi - 10 * dy := by rw [IntKind.wrap_i64]; omega
  have m3 : IntKind.i64.wrap (15 * rh) = 15 * rh := by rw [IntKind.wrap_i64]; omega
  have m4 : IntKind.i64.wrap (x.whi - 10 * dy + 15 * rh) = x.whi - 10 * dy + 15 * rh := by rw [IntKind.wrap_i64]; omega
  clear hd hr hxb
  go_upto_region 19 with fail
  clear f0 f1 fl d0 d1 d2 d3 d4 d5 dl c0 c1 c2 c3 c4 c5 c6 c7 c8 cl x0 x1 x2 x3 x4 x5 x6 xl
  have hbd : Below w4.heap.size w4 w4.drew := (Below.refl _ w4).drew
  have KS9 := Lib.hid (KS4.out.belowS hbd)
  have KR9 := Lib.hid (KR4.out.belowS hbd)
  have KA9 := Lib.hid (KA4.out.belowS hbd)
  have KH9 := Lib.hid (KH4.out.belowS hbd)
  have HB9 := Lib.hid (HB4.out.trans (Turn.of_below hbd))
  have HSZ9 := Lib.hid (Nat.le_trans HSZ4.out hbd.size)
  have HWZ9 := Lib.hid (Nat.le_trans HWZ4.out hbd.size)
  have HS9 := Lib.hid (HS4.out.below hbd)
  have HNMX := Lib.hid (HS.out.parts x HXM.out).1.2
  refine wp_region_E 32 (fun w' : World => w'.cell? ⟨w.heap.size + 1, 3, none⟩ = some (.slice (some ⟨g, 0, none⟩) S.heaps.length S.hc) ∧ w'.cell? ⟨bh, 5, none⟩ = some (.int .i64 x.wlo) ∧ w'.cell? ⟨bh, 6, none⟩ = some (.int .i64 x.whi) ∧ w'.cell? ⟨w.heap.size + 1 + 1, 5, none⟩ = some (.int .i64 dy) ∧ w'.cell? ⟨w.heap.size + 1 + 1, 7, none⟩ = some (.int .i64 rl) ∧ w'.cell? ⟨w.heap.size + 1 + 1, 8, none⟩ = some (.int .i64 rh)) (by kernel_rfl) ?_
  generalize w4.drew = w9 at *
  clear hbd KS4 KR4 KA4 KF4 KH4 HS4
  have hx : (fun w' : World => w'.cell? ⟨w.heap.size + 1, 3, none⟩ = some (.slice (some ⟨g, 0, none⟩) S.heaps.length S.hc) ∧ w'.cell? ⟨bh, 5, none⟩ = some (.int .i64 x.wlo) ∧ w'.cell? ⟨bh, 6, none⟩ = some (.int .i64 x.whi) ∧ w'.cell? ⟨w.heap.size + 1 + 1, 5, none⟩ = some (.int .i64 dy) ∧ w'.cell? ⟨w.heap.size + 1 + 1, 7, none⟩ = some (.int .i64 rl) ∧ w'.cell? ⟨w.heap.size + 1 + 1, 8, none⟩ = some (.int .i64 rh)) w9 := by
    have e3 := KS9.out.cell 3
    rw [HG.out] at e3
    exact ⟨e3, KH9.out.cell 5, KH9.out.cell 6, KA9.out.cell 5, KA9.out.cell 7, KA9.out.cell 8⟩
  obtain ⟨g', hg', hgb', hcap2, hcx2, hcs', hfz'⟩ := HS9.out.heapAt HX.out
  obtain rfl : g = g' := by rw [HG.out] at hg'; injection hg' with h; injection h
  have c5 : w9.cell? ⟨g, i * 7 + 5, none⟩ = some (.int .i64 x.wlo) := hcs' 5 _ rfl
  have c6 : w9.cell? ⟨g, i * 7 + 6, none⟩ = some (.int .i64 x.whi) := hcs' 6 _ rfl
  have z5 := hfz' (i * 7 + 5)
  have z6 := hfz' (i * 7 + 6)
  have lg := hgb'.2
  clear hg' hgb' hcs' hfz' hcap2 hcx2
  refine tk 0 rfl hx (v := ?v10) (.inl ⟨by rfl, ?y10⟩) ?r10
  case y10 => intro w' h; (try dsimp only at h); go_simp; try with_reducible rfl
  refine tk 1 rfl hx (v := ?v11) (.inl ⟨by rfl, ?y11⟩) ?r11
  case y11 => intro w' h; (try dsimp only at h); go_simp; try with_reducible rfl
  refine tk 2 rfl hx (v := ?v12) (.inl ⟨by rfl, ?y12⟩) ?r12
  case y12 => intro w' h; (try dsimp only at h); go_simp; try with_reducible rfl
  try simp only [Act.put, List.getElem_toArray, List.getElem_cons_zero, List.getElem_cons_succ, List.setIfInBounds_toArray, List.set_cons_zero, List.set_cons_succ]
  refine tk 3 rfl hx (v := ?v13) (.inl ⟨by rfl, ?y13⟩) ?r13
  case y13 => intro w' h; (try dsimp only at h); go_simp; try with_reducible rfl
  refine tk 4 rfl hx (v := ?v14) (.inl ⟨by rfl, ?y14⟩) ?r14
  case y14 => intro w' h; (try dsimp only at h); go_simp; try with_reducible rfl
  refine tk 5 rfl hx (v := ?v15) (.inl ⟨by rfl, ?y15⟩) ?r15
  case y15 => intro w' h; (try dsimp only at h); go_simp; try with_reducible rfl
  try simp only [Act.put, List.getElem_toArray, List.getElem_cons_zero, List.getElem_cons_succ, List.setIfInBounds_toArray, List.set_cons_zero, List.set_cons_succ]
  refine tk 6 rfl hx (v := ?v16) (.inl ⟨by rfl, ?y16⟩) ?r16
  case y16 => intro w' h; (try dsimp only at h); go_simp; try with_reducible rfl
  refine tk 7 rfl hx (v := ?v17) (.inl ⟨by rfl, ?y17⟩) ?r17
  case y17 => intro w' h; (try dsimp only at h); go_simp; try with_reducible rfl
  refine tk 8 rfl hx (v := ?v18) (.inl ⟨by rfl, ?y18⟩) ?r18
  case y18 => intro w' h; (try dsimp only at h); go_simp; try with_reducible rfl
  try simp only [Act.put, List.getElem_toArray, List.getElem_cons_zero, List.getElem_cons_succ, List.setIfInBounds_toArray, List.set_cons_zero, List.set_cons_succ]
  refine tk 9 rfl hx (v := ?v19) (.inl ⟨by rfl, ?y19⟩) ?r19
  case y19 => intro w' h; (try dsimp only at h); go_simp; try with_reducible rfl
  refine tk 10 rfl hx (v := ?v20) (.inl ⟨by rfl, ?y20⟩) ?r20
  case y20 => intro w' h; (try dsimp only at h); go_simp; try with_reducible rfl
  refine tk 11 rfl hx (v := ?v21) (.inl ⟨by rfl, ?y21⟩) ?r21
  case y21 => intro w' h; (try dsimp only at h); go_simp; try with_reducible rfl
  try simp only [Act.put, List.getElem_toArray, List.getElem_cons_zero, List.getElem_cons_succ, List.setIfInBounds_toArray, List.set_cons_zero, List.set_cons_succ]
  refine tk 12 rfl hx (v := ?v22) (.inl ⟨by rfl, ?y22⟩) ?r22
  case y22 => intro w' h; (try dsimp only at h); go_simp; try with_reducible rfl
  refine tk 13 rfl hx (v := ?v23) (.inl ⟨by rfl, ?y23⟩) ?r23
  case y23 => intro w' h; (try dsimp only at h); go_simp; try with_reducible rfl
  refine tk 14 rfl hx (v := ?v24) (.inl ⟨by rfl, ?y24⟩) ?r24
  case y24 => intro w' h; (try dsimp only at h); go_simp; try with_reducible rfl
  try simp only [Act.put, List.getElem_toArray, List.getElem_cons_zero, List.getElem_cons_succ, List.setIfInBounds_toArray, List.set_cons_zero, List.set_cons_succ]
  refine tk 16 rfl hx (v := ?v25) (.inl ⟨by rfl, ?y25⟩) ?r25
  case y25 => intro w' h; (try dsimp only at h); go_simp; try with_reducible rfl
  refine tk 17 rfl hx (v := ?v26) (.inl ⟨by rfl, ?y26⟩) ?r26
  case y26 => intro w' h; (try dsimp only at h); go_simp; try with_reducible rfl
  refine tk 18 rfl hx (v := ?v27) (.inl ⟨by rfl, ?y27⟩) ?r27
  case y27 => intro w' h; (try dsimp only at h); go_simp; try with_reducible rfl
  try simp only [Act.put, List.getElem_toArray, List.getElem_cons_zero, List.getElem_cons_succ, List.setIfInBounds_toArray, List.set_cons_zero, List.set_cons_succ]
  refine tk 19 rfl hx (v := ?v28) (.inl ⟨by rfl, ?y28⟩) ?r28
  case y28 => intro w' h; (try dsimp only at h); go_simp; try with_reducible rfl
  refine tk 20 rfl hx (v := ?v29) (.inl ⟨by rfl, ?y29⟩) ?r29
  case y29 => intro w' h; (try dsimp only at h); go_simp; try with_reducible rfl
  refine tk 21 rfl hx (v := ?v30) (.inl ⟨by rfl, ?y30⟩) ?r30
  case y30 => intro w' h; (try dsimp only at h); go_simp; try with_reducible rfl
  try simp only [Act.put, List.getElem_toArray, List.getElem_cons_zero, List.getElem_cons_succ, List.setIfInBounds_toArray, List.set_cons_zero, List.set_cons_succ]
  refine tk 22 rfl hx (v := ?v31) (.inl ⟨by rfl, ?y31⟩) ?r31
  case y31 => intro w' h; (try dsimp only at h); go_simp; try with_reducible rfl
  refine tk 23 rfl hx (v := ?v32) (.inl ⟨by rfl, ?y32⟩) ?r32
  case y32 => intro w' h; (try dsimp only at h); go_simp; try with_reducible rfl
  refine tk 24 rfl hx (v := ?v33) (.inl ⟨by rfl, ?y33⟩) ?r33
  case y33 => intro w' h; (try dsimp only at h); go_simp; try with_reducible rfl
  try simp only [Act.put, List.getElem_toArray, List.getElem_cons_zero, List.getElem_cons_succ, List.setIfInBounds_toArray, List.set_cons_zero, List.set_cons_succ]
  refine tk 25 rfl hx (v := ?v34) (.inl ⟨by rfl, ?y34⟩) ?r34
  case y34 => intro w' h; (try dsimp only at h); go_simp; try with_reducible rfl
  refine tk 26 rfl hx (v := ?v35) (.inl ⟨by rfl, ?y35⟩) ?r35
  case y35 => intro w' h; (try dsimp only at h); go_simp; try with_reducible rfl
  refine tk 27 rfl hx (v := ?v36) (.inl ⟨by rfl, ?y36⟩) ?r36
  case y36 => intro w' h; (try dsimp only at h); go_simp; try with_reducible rfl
  try simp only [Act.put, List.getElem_toArray, List.getElem_cons_zero, List.getElem_cons_succ, List.setIfInBounds_toArray, List.set_cons_zero, List.set_cons_succ]
  refine E_step (i := 15) (o := _) (by kernel_rfl) rfl (fun K hK => ?_)
  go_simp
  refine (clamp_any _ _).mono ?_
  rintro e w5 ⟨rfl, rfl⟩
  (try dsimp only)
  generalize hm1 : moistM (x.wlo - 20 * dy + 5 * rl) = M1
  have HM1 := Lib.hid hm1
  clear hm1
  refine hK.out _ _ (fun _ => hx) ?_
  clear hK K
  try simp only [Act.put, List.getElem_toArray, List.getElem_cons_zero, List.getElem_cons_succ, List.setIfInBounds_toArray, List.set_cons_zero, List.set_cons_succ]
  refine E_step (i := 28) (o := _) (by kernel_rfl) rfl (fun K hK => ?_)
  go_simp
  refine (clamp_any _ _).mono ?_
  rintro e w5 ⟨rfl, rfl⟩
  (try dsimp only)
  generalize hm2 : moistM (x.whi - 10 * dy + 15 * rh) = M2
  have HM2 := Lib.hid hm2
  clear hm2
  refine hK.out _ _ (fun _ => hx) ?_
  clear hK K
  try simp only [Act.put, List.getElem_toArray, List.getElem_cons_zero, List.getElem_cons_succ, List.setIfInBounds_toArray, List.set_cons_zero, List.set_cons_succ]
  refine E_step (i := 29) (o := _) (by kernel_rfl) rfl (fun K hK => ?_)
  go_simp
  refine hK.out _ _ (fun _ => hx) ?_
  clear hK K
  try simp only [Act.put, List.getElem_toArray, List.getElem_cons_zero, List.getElem_cons_succ, List.setIfInBounds_toArray, List.set_cons_zero, List.set_cons_succ]
  refine E_step (i := 30) (o := _) (by kernel_rfl) rfl (fun K hK => ?_)
  go_simp
  refine hK.out _ _ (fun _ => hx) ?_
  clear hK K
  try simp only [Act.put, List.getElem_toArray, List.getElem_cons_zero, List.getElem_cons_succ, List.setIfInBounds_toArray, List.set_cons_zero, List.set_cons_succ]
  refine tk 31 rfl hx (v := ?v37) (.inl ⟨by rfl, ?y37⟩) ?r37
  case y37 => intro w' h; (try dsimp only at h); go_simp; try with_reducible rfl
  try simp only [Act.put, List.getElem_toArray, List.getElem_cons_zero, List.getElem_cons_succ, List.setIfInBounds_toArray, List.set_cons_zero, List.set_cons_succ]
  refine E_step (i := 32) (o := _) (by kernel_rfl) rfl (fun K hK => ?_)
  go_simp
  refine hK.out _ _ (fun h => absurd rfl h) ?_
  clear hK K
  try simp only [Act.put, List.getElem_toArray, List.getElem_cons_zero, List.getElem_cons_succ, List.setIfInBounds_toArray, List.set_cons_zero, List.set_cons_succ]
  refine E_done (by kernel_rfl) ?_ _
  (try rw [show i * 7 + 5 + 1 = i * 7 + 6 by omega])
  clear c5 c6 z5 z6 lg hx n1 n2 n3 n4 m1 m2 m3 m4
  have ht : Turn (fun k => k = g) w9 ((w9.setCell ⟨g, i * 7 + 5, none⟩ (.int .i64 M1)).setCell ⟨g, i * 7 + 6, none⟩ (.int .i64 M2)) := ((Turn.of_below (X := fun k => k = g) (Below.refl _ w9)).setCell (B := g) rfl _ _).setCell (B := g) rfl _ _
  have KS11 := Lib.hid (ht.blk KS9.out (fun e => by have := HGB.out; have := (show w.heap.size + 1 = g from e); omega))
  have KR11 := Lib.hid (ht.blk KR9.out (fun e => by have := HGB.out; have := (show w.heap.size + 1 + 1 + 1 = g from e); omega))
  have HB11 := Lib.hid (HB9.out.trans2 ht (fun k e => .inl (.inr (.inr (by rw [HG.out, show k = g from e]; rfl)))))
  have HWZ11 := Lib.hid (Nat.le_trans HWZ9.out ht.size)
  have ht1 : Turn (fun k => k = g) w9 (w9.setCell ⟨g, i * 7 + 5, none⟩ (.int .i64 M1)) := (Turn.of_below (X := fun k => k = g) (Below.refl _ w9)).setCell (B := g) rfl _ _
  have HPX := Lib.hid (HS9.out.parts x HXM.out)
  have hT1 := HS9.out.write (i := i) (x := x) (j := 5) (y := { x with wlo := M1 }) (v := .int .i64 M1) HX.out HG.out (by omega) rfl HPX.out.1 HPX.out.2
  have hT := hT1.write (i := i) (x := { x with wlo := M1 }) (j := 6) (y := { x with wlo := M1, whi := M2 }) (v := .int .i64 M2) (by rw [List.getElem?_set_self HIL.out]) HG.out (by omega) rfl ⟨HPX.out.1.1.turn ht1 (fun k e e2 => by have := (HPX.out.2 k e).2.2.2; rw [HG.out] at this; exact this (by rw [show k = g from e2]; rfl)), HNMX.out⟩ (fun k e => (HPX.out.2.mono ht1.size) k e)
  dsimp only at hT
  rw [List.set_set] at hT
  have HS11 := Lib.hid hT
  clear hT hT1 ht ht1
  generalize ((w9.setCell ⟨g, i * 7 + 5, none⟩ (.int .i64 M1)).setCell ⟨g, i * 7 + 6, none⟩ (.int .i64 M2)) = w11 at *
  have HV := Lib.hid (show (dryD S ⟨3, pl, ld, nm, ot, dy, pr, rl, rh⟩) = (0, { S with heaps := S.heaps.set i { x with wlo := M1, whi := M2 } }) by
    unfold dryD
    dsimp only
    rw [if_neg (by rw [HIX.out]; omega), if_neg (by rw [HXH.out]; exact H4.out), if_neg (fun h => h ⟨H1.out, H2.out⟩), HXH.out, HIX.out, Int.toNat_natCast, HM1.out, HM2.out])
  have HLH := Lib.hid (show (S.heaps.set i { x with wlo := M1, whi := M2 }).length = S.heaps.length from List.length_set ..)
  have HEI := Lib.hid (show ∀ B, Off B S → ∀ z ∈ S.heaps.set i { x with wlo := M1, whi := M2 }, z.pa.map (·.block) ≠ some B from fun B ho z hz => by
    rcases List.mem_or_eq_of_mem_set hz with hz | rfl
    · exact ho.pa z hz
    · exact ho.pa x HXM.out)
  generalize S.heaps.set i { x with wlo := M1, whi := M2 } = H at *
  obtain ⟨d0, d1, d2, d3, d4, d5⟩ := sto_cells (S := S) KS11.out
  have dl := KS11.out.lt
  obtain ⟨rr0, rr1, rr2, rr3, rr4, rr5⟩ := zero_cells KR11.out
  have rrl := KR11.out.lt
  have rrz0 := KR11.out.frozen 0
  have rrz1 := KR11.out.frozen 1
  have rrz2 := KR11.out.frozen 2
  have rrz3 := KR11.out.frozen 3
  have rrz4 := KR11.out.frozen 4
  have rrz5 := KR11.out.frozen 5
  go_wp2_with fail
  refine put_end S KR11.out (Φ := bodyPost _ _ _ _ _) (fun wf ht kf => ?_)
  obtain ⟨g0, g1, g2, g3, g4, g5⟩ := sto_cells (S := S) kf
  have hoff : OffTo (w.heap.size + 4) S { S with heaps := H } := fun B hB ho => ⟨ho.la, ho.ga, ho.ha, ho.ua, ho.wa, HEI.out B ho⟩
  refine bodyPost_ret (v := .tuple #[.agg #[.int .i64 S.year, .slice S.la S.last.length S.lc, .slice S.ga S.given.length S.gc, .slice S.ha S.heaps.length S.hc, .slice S.ua S.used.length S.uc, .slice S.wa S.waste.length S.wc], .int .i64 0]) (by simp [results, Tryz.results23, go_sem, g0, g1, g2, g3, g4, g5]) rfl ⟨⟨{ S with heaps := H }, by rw [HV.out]; simp only [stoV, HLH.out], fun _ => ⟨(HS11.out).turnAt ht (hoff _ (by omega) (HS.out.off (.inl (by omega)))), ?_, fun B hB ho => hoff B (by omega) ho⟩⟩, HB11.out.far ht (fun k e => by rw [show k = w.heap.size + 1 + 1 + 1 from e]; omega)⟩
  rw [HV.out]
  exact ⟨rfl, rfl, rfl, rfl, rfl, rfl, fun j u v hu hv => by cases hu.symm.trans hv; exact SameHep.refl _⟩
end
end Go.Proofs.YtfhalmlpnoepcaaGreat
namespace Go.Proofs.YtfhalmlpnoepcaaGreat
section
set_option linter.unusedSimpArgs false
open Go.RowKit

theorem refDone_any (base : Nat) (F : Frm) (S : Sto) (a : Chr) (w : World) (hF : ∀ w', Below base w w' → IsFarm w' F) (hS : Rst base w S) (hbase : base ≤ w.heap.size) (hE : storeE F S = 0) (hfit : S.fit) (hnm : a.name.size ≤ maxLen) (hno : a.other.size ≤ maxLen) (hk : 1 ≤ a.kind ∧ a.kind ≤ 8) :
    Calls Tryz.prog 23 #[.agg #[.slice F.pa F.ps.length F.pc, .int .i64 F.dry], .agg #[.int .i64 S.year, .slice S.la S.last.length S.lc, .slice S.ga S.given.length S.gc, .slice S.ha S.heaps.length S.hc, .slice S.ua S.used.length S.uc, .slice S.wa S.waste.length S.wc], .agg (chrC a)] w (ChMade base S (choreD F S a) w) := by
  obtain ⟨kd, pl, ld, nm, ot, dy, pr, rl, rh⟩ := a
  dsimp only at hk hnm hno
  unfold choreD
  dsimp only
  rcases (show kd = 1 ∨ kd = 2 ∨ kd = 3 ∨ kd = 4 ∨ kd = 5 ∨ kd = 6 ∨ kd = 7 ∨ kd = 8 by omega) with rfl | rfl | rfl | rfl | rfl | rfl | rfl | rfl
  · rw [if_pos rfl]
    exact refDone1_any base F S pl ld nm ot dy pr rl rh w hF hS hbase hE hfit hnm hno
  · rw [if_neg (by decide), if_pos rfl]
    exact refDone2_any base F S pl ld nm ot dy pr rl rh w hF hS hbase hE hfit hnm hno
  · rw [if_neg (by decide), if_neg (by decide), if_pos rfl]
    exact refDone3_any base F S pl ld nm ot dy pr rl rh w hF hS hbase hE hfit hnm hno
  · rw [if_neg (by decide), if_neg (by decide), if_neg (by decide), if_pos rfl]
    exact refDone4_any base F S pl ld nm ot dy pr rl rh w hF hS hbase hE hfit hnm hno
  · rw [if_neg (by decide), if_neg (by decide), if_neg (by decide), if_neg (by decide), if_pos rfl]
    exact refDone5_any base F S pl ld nm ot dy pr rl rh w hF hS hbase hE hfit hnm hno
  · rw [if_neg (by decide), if_neg (by decide), if_neg (by decide), if_neg (by decide), if_neg (by decide), if_pos rfl]
    exact refDone6_any base F S pl ld nm ot dy pr rl rh w hF hS hbase hE hfit hnm hno
  · rw [if_neg (by decide), if_neg (by decide), if_neg (by decide), if_neg (by decide), if_neg (by decide), if_neg (by decide), if_pos rfl]
    exact refDone7_any base F S pl ld nm ot dy pr rl rh w hF hS hbase hE hfit hnm hno
  · rw [if_neg (by decide), if_neg (by decide), if_neg (by decide), if_neg (by decide), if_neg (by decide), if_neg (by decide), if_neg (by decide)]
    exact refDone8_any base F S pl ld nm ot dy pr rl rh w hF hS hbase hE hfit hnm hno

def RefDoSaid (F : Frm) (S : Sto) (a : Chr) (w : World) (e : Ending) (w' : World) : Prop :=
  (∃ T, e = .returned (.tuple #[stoV T, .int .i64 (doD F S a).1]) ∧ IsStore w' T ∧ SameSto T (if (doD F S a).1 = 0 then (doD F S a).2 else emptyS)) ∧ Below w.heap.size w w'
theorem RefDoSaid.err {F : Frm} {S : Sto} {a : Chr} {w wf : World} {x : Int} (h : (doD F S a).1 = x) (hx : x ≠ 0) (hb : Below w.heap.size w wf) : RefDoSaid F S a w (.returned (.tuple #[.agg #[.int .i64 0, .slice none 0 0, .slice none 0 0, .slice none 0 0, .slice none 0 0, .slice none 0 0], .int .i64 x])) wf :=
  ⟨⟨emptyS, by rw [h]; rfl, ⟨.inl rfl, .inl rfl, .inl rfl, .inl rfl, .inl rfl⟩, by rw [if_neg (by rw [h]; exact hx)]; exact SameSto.refl _⟩, hb⟩
theorem zero_end {Φ : World → Prop} {w : World} {B : Nat} {t : TypeId} (k : Blk w B #[.int .i64 0, .slice none 0 0, .slice none 0 0, .slice none 0 0, .slice none 0 0, .slice none 0 0] t) (h : ∀ wf, Turn (fun k => k = B) w wf → Blk wf B #[.int .i64 0, .slice none 0 0, .slice none 0 0, .slice none 0 0, .slice none 0 0, .slice none 0 0] t → Φ wf) : Φ ((((((w.setCell ⟨B, 0, none⟩ (.int .i64 0)).setCell ⟨B, 1, none⟩ (.slice none 0 0)).setCell ⟨B, 2, none⟩ (.slice none 0 0)).setCell ⟨B, 3, none⟩ (.slice none 0 0)).setCell ⟨B, 4, none⟩ (.slice none 0 0)).setCell ⟨B, 5, none⟩ (.slice none 0 0)) :=
  h _ (((((((Turn.of_below (X := fun k => k = B) (Below.refl _ w)).setCell (B := B) rfl 0 (.int .i64 0)).setCell (B := B) rfl 1 (.slice none 0 0)).setCell (B := B) rfl 2 (.slice none 0 0)).setCell (B := B) rfl 3 (.slice none 0 0)).setCell (B := B) rfl 4 (.slice none 0 0)).setCell (B := B) rfl 5 (.slice none 0 0)) (show Blk ((((((w.setCell ⟨B, 0, none⟩ (.int .i64 0)).setCell ⟨B, 1, none⟩ (.slice none 0 0)).setCell ⟨B, 2, none⟩ (.slice none 0 0)).setCell ⟨B, 3, none⟩ (.slice none 0 0)).setCell ⟨B, 4, none⟩ (.slice none 0 0)).setCell ⟨B, 5, none⟩ (.slice none 0 0)) B #[.int .i64 0, .slice none 0 0, .slice none 0 0, .slice none 0 0, .slice none 0 0, .slice none 0 0] t from ((((((k.set 0 (.int .i64 0)).set 1 (.slice none 0 0)).set 2 (.slice none 0 0)).set 3 (.slice none 0 0)).set 4 (.slice none 0 0)).set 5 (.slice none 0 0)))
theorem chrB_comm (a b : Chr) : chrB a b = chrB b a := by
  rw [Bool.eq_iff_iff]
  simp only [chrB, strB, Bool.and_eq_true, beq_iff_eq]
  constructor <;> (rintro ⟨h1, h2, h3, h4, h5, h6, h7, h8, h9⟩; exact ⟨h1.symm, h2.symm, h3.symm, h4.symm, h5.symm, h6.symm, h7.symm, h8.symm, h9.symm⟩)

set_option maxRecDepth 100000 in
set_option maxHeartbeats 32000000 in
theorem refDo_any (F : Frm) (S : Sto) (a : Chr) (w : World) (hF : IsFarm w F) (hS : IsStore w S) (hfit : S.fit) (hnm : a.name.size ≤ maxLen) (hno : a.other.size ≤ maxLen) :
    Calls Tryz.prog 9 #[.agg #[.slice F.pa F.ps.length F.pc, .int .i64 F.dry], .agg #[.int .i64 S.year, .slice S.la S.last.length S.lc, .slice S.ga S.given.length S.gc, .slice S.ha S.heaps.length S.hc, .slice S.ua S.used.length S.uc, .slice S.wa S.waste.length S.wc], .agg (chrC a)] w (RefDoSaid F S a w) := by
  obtain ⟨kd, pl, ld, nm, ot, dy, pr, rl, rh⟩ := a
  dsimp only at hnm hno
  show Calls _ _ #[.agg #[.slice F.pa F.ps.length F.pc, .int .i64 F.dry], .agg #[.int .i64 S.year, .slice S.la S.last.length S.lc, .slice S.ga S.given.length S.gc, .slice S.ha S.heaps.length S.hc, .slice S.ua S.used.length S.uc, .slice S.wa S.waste.length S.wc], .agg #[.int .i64 kd, .int .i64 pl, .int .i64 ld, .string nm, .string ot, .int .i64 dy, .int .i64 pr, .int .i64 rl, .int .i64 rh]] _ _
  have HF := Lib.hid hF
  have HS := Lib.hid hS
  have HFIT := Lib.hid hfit
  have HNM := Lib.hid hnm
  have HNO := Lib.hid hno
  clear hF hS hfit hnm hno
  go_enter Tryz.func9, Tryz.ntmps9
  go_upto_region 1 with fail
  generalize hw1 : ((((w.alloc (.cells #[.slice F.pa F.ps.length F.pc, .int .i64 F.dry] 24)).alloc (.cells #[.int .i64 S.year, .slice S.la S.last.length S.lc, .slice S.ga S.given.length S.gc, .slice S.ha S.heaps.length S.hc, .slice S.ua S.used.length S.uc, .slice S.wa S.waste.length S.wc] 29)).alloc (.cells #[.int .i64 kd, .int .i64 pl, .int .i64 ld, .string nm, .string ot, .int .i64 dy, .int .i64 pr, .int .i64 rl, .int .i64 rh] 34)).alloc (.cells #[.int .i64 0, .slice none 0 0, .slice none 0 0, .slice none 0 0, .slice none 0 0, .slice none 0 0] 29)) = w1
  obtain ⟨k1, k2, k3, k4, hb1⟩ := four_boxes w F S kd pl ld nm ot dy pr rl rh _ _ _ w1 hw1.symm
  clear hw1
  have HB1 := Lib.hid hb1
  have HWZ1 := Lib.hid (show w.heap.size + 4 ≤ w1.heap.size from k4.lt)
  have KF1 := Lib.hid k1
  have KS1 := Lib.hid k2
  have KA1 := Lib.hid k3
  have KR1 := Lib.hid k4
  clear k1 k2 k3 k4 hb1
  obtain ⟨f0, f1⟩ := frm_cells KF1.out
  have fl := KF1.out.lt
  obtain ⟨d0, d1, d2, d3, d4, d5⟩ := sto_cells (S := S) KS1.out
  have dl := KS1.out.lt
  obtain ⟨c0, c1, c2, c3, c4, c5, c6, c7, c8⟩ := chr_cells KA1.out
  have cl := KA1.out.lt
  go_wp2_with fail
  refine (show Calls Tryz.prog 21 #[.agg #[.slice F.pa F.ps.length F.pc, .int .i64 F.dry], .agg #[.int .i64 S.year, .slice S.la S.last.length S.lc, .slice S.ga S.given.length S.gc, .slice S.ha S.heaps.length S.hc, .slice S.ua S.used.length S.uc, .slice S.wa S.waste.length S.wc]] w1 _ from refCheckStore_any F S _ (HF.out.below HB1.out) (HS.out.below HB1.out) HFIT.out).mono ?_
  rintro e w2 ⟨rfl, hb⟩
  clear f0 f1 fl d0 d1 d2 d3 d4 d5 dl c0 c1 c2 c3 c4 c5 c6 c7 c8 cl
  have KF2 := Lib.hid (KF1.out.belowS hb)
  have KS2 := Lib.hid (KS1.out.belowS hb)
  have KA2 := Lib.hid (KA1.out.belowS hb)
  have KR2 := Lib.hid (KR1.out.belowS hb)
  have HB2 := Lib.hid (HB1.out.trans (hb.mono HB1.out.size))
  have HWZ2 := Lib.hid (Nat.le_trans HWZ1.out hb.size)
  clear hb KF1 KS1 KA1 KR1
  obtain ⟨f0, f1⟩ := frm_cells KF2.out
  have fl := KF2.out.lt
  obtain ⟨d0, d1, d2, d3, d4, d5⟩ := sto_cells (S := S) KS2.out
  have dl := KS2.out.lt
  obtain ⟨c0, c1, c2, c3, c4, c5, c6, c7, c8⟩ := chr_cells KA2.out
  have cl := KA2.out.lt
  by_cases hE : storeE F S = 0
  rotate_left
  · have HV := Lib.hid (show (doD F S ⟨kd, pl, ld, nm, ot, dy, pr, rl, rh⟩).1 = storeE F S by rw [doD_err hE])
    have HN := Lib.hid hE
    obtain ⟨E0, hE0⟩ : ∃ E0, storeE F S = E0 := ⟨_, rfl⟩
    rw [hE0] at HV HN ⊢
    clear hE hE0
    have hn := HN.out
    have hq : (E0 != 0) = true := by simp [hn]
    clear hn
    obtain ⟨rr0, rr1, rr2, rr3, rr4, rr5⟩ := zero_cells KR2.out
    have rrl := KR2.out.lt
    have rrz0 := KR2.out.frozen 0
    have rrz1 := KR2.out.frozen 1
    have rrz2 := KR2.out.frozen 2
    have rrz3 := KR2.out.frozen 3
    have rrz4 := KR2.out.frozen 4
    have rrz5 := KR2.out.frozen 5
    go_wp2_with fail
    refine zero_end KR2.out (Φ := bodyPost _ _ _ _ _) (fun wf ht kf => ?_)
    obtain ⟨g0, g1, g2, g3, g4, g5⟩ := zero_cells kf
    have hbf : Below w.heap.size w wf := HB2.out.trans (ht.below HB2.out.size (fun k e => by rw [show k = w.heap.size + 1 + 1 + 1 from e]; omega))
    exact bodyPost_ret (v := .tuple #[.agg #[.int .i64 0, .slice none 0 0, .slice none 0 0, .slice none 0 0, .slice none 0 0, .slice none 0 0], .int .i64 E0]) (by simp [results, Tryz.results9, go_sem, g0, g1, g2, g3, g4, g5]) rfl (RefDoSaid.err HV.out (HN.out) hbf)
  rw [hE]
  have HE := Lib.hid hE
  clear hE
  go_upto_region 4 with fail
  clear f0 f1 fl d0 d1 d2 d3 d4 d5 dl c0 c1 c2 c3 c4 c5 c6 c7 c8 cl
  obtain ⟨w3, hw3⟩ : ∃ w3, w3 = w2 := ⟨_, rfl⟩
  rw [← hw3] at HB2 HWZ2 KF2 KS2 KA2 KR2 ⊢
  clear hw3
  have hst : ∀ w', Below w3.heap.size w3 w' → (fun w' : World => Below w3.heap.size w3 w' ∧ (w'.cell? ⟨w.heap.size + 1 + 1, 0, none⟩ = some (.int .i64 kd) ∧ w'.cell? ⟨w.heap.size + 1 + 1, 1, none⟩ = some (.int .i64 pl) ∧ w'.cell? ⟨w.heap.size + 1 + 1, 2, none⟩ = some (.int .i64 ld) ∧ w'.cell? ⟨w.heap.size + 1 + 1, 3, none⟩ = some (.string nm) ∧ w'.cell? ⟨w.heap.size + 1 + 1, 4, none⟩ = some (.string ot) ∧ w'.cell? ⟨w.heap.size + 1 + 1, 5, none⟩ = some (.int .i64 dy) ∧ w'.cell? ⟨w.heap.size + 1 + 1, 6, none⟩ = some (.int .i64 pr) ∧ w'.cell? ⟨w.heap.size + 1 + 1, 7, none⟩ = some (.int .i64 rl) ∧ w'.cell? ⟨w.heap.size + 1 + 1, 8, none⟩ = some (.int .i64 rh))) w' := fun w' hb => by
    have k := KA2.out.belowS hb
    exact ⟨hb, k.cell 0, k.cell 1, k.cell 2, k.cell 3, k.cell 4, k.cell 5, k.cell 6, k.cell 7, k.cell 8⟩
  have HSTW := Lib.hid hst
  clear hst
  have hx := HSTW.out w3.drew ((Below.refl _ w3).drew)
  by_cases hk1 : kd < 1
  · have q1 : decide (kd < 1) = true := decide_eq_true hk1
    have HV := Lib.hid (show (doD F S ⟨kd, pl, ld, nm, ot, dy, pr, rl, rh⟩).1 = 1 by unfold doD; rw [if_neg (not_not_intro HE.out), if_pos (fun e => by have := e.1; dsimp only at this; omega)])
    clear hk1
    refine wp_region_E 14 (fun w' : World => Below w3.heap.size w3 w' ∧ (w'.cell? ⟨w.heap.size + 1 + 1, 0, none⟩ = some (.int .i64 kd) ∧ w'.cell? ⟨w.heap.size + 1 + 1, 1, none⟩ = some (.int .i64 pl) ∧ w'.cell? ⟨w.heap.size + 1 + 1, 2, none⟩ = some (.int .i64 ld) ∧ w'.cell? ⟨w.heap.size + 1 + 1, 3, none⟩ = some (.string nm) ∧ w'.cell? ⟨w.heap.size + 1 + 1, 4, none⟩ = some (.string ot) ∧ w'.cell? ⟨w.heap.size + 1 + 1, 5, none⟩ = some (.int .i64 dy) ∧ w'.cell? ⟨w.heap.size + 1 + 1, 6, none⟩ = some (.int .i64 pr) ∧ w'.cell? ⟨w.heap.size + 1 + 1, 7, none⟩ = some (.int .i64 rl) ∧ w'.cell? ⟨w.heap.size + 1 + 1, 8, none⟩ = some (.int .i64 rh))) (by kernel_rfl) ?_
    refine tR 0 rfl hx (v := ?v1) (.inl ⟨by rfl, ?y1⟩) ?r1
    case y1 => intro w' h; (try dsimp only at h); go_simp; try with_reducible rfl
    refine tR 1 rfl hx (v := ?v2) (.inl ⟨by rfl, ?y2⟩) ?r2
    case y2 => intro w' h; (try dsimp only at h); go_simp; try with_reducible rfl
    refine tR 2 rfl hx (v := ?v3) (.inl ⟨by rfl, ?y3⟩) ?r3
    case y3 => intro w' h; (try dsimp only at h); go_simp; try with_reducible rfl
    try simp only [Act.put, List.getElem_toArray, List.getElem_cons_zero, List.getElem_cons_succ, List.setIfInBounds_toArray, List.set_cons_zero, List.set_cons_succ]
    refine tR 3 rfl hx (v := ?v4) (.inl ⟨by rfl, ?y4⟩) ?r4
    case y4 => intro w' h; (try dsimp only at h); go_simp; try with_reducible rfl
    refine tR 4 rfl hx (v := undef) (.inr ⟨by rfl, rfl⟩) ?r5
    refine tR 5 rfl hx (v := undef) (.inr ⟨by rfl, rfl⟩) ?r6
    try simp only [Act.put, List.getElem_toArray, List.getElem_cons_zero, List.getElem_cons_succ, List.setIfInBounds_toArray, List.set_cons_zero, List.set_cons_succ]
    refine tR 6 rfl hx (v := undef) (.inr ⟨by rfl, rfl⟩) ?r7
    refine tR 7 rfl hx (v := ?v8) (.inl ⟨by rfl, ?y8⟩) ?r8
    case y8 => intro w' h; (try dsimp only at h); go_simp; try with_reducible rfl
    refine tR 8 rfl hx (v := ?v9) (.inl ⟨by rfl, ?y9⟩) ?r9
    case y9 => intro w' h; (try dsimp only at h); go_simp; try with_reducible rfl
    try simp only [Act.put, List.getElem_toArray, List.getElem_cons_zero, List.getElem_cons_succ, List.setIfInBounds_toArray, List.set_cons_zero, List.set_cons_succ]
    refine tR 9 rfl hx (v := undef) (.inr ⟨by rfl, rfl⟩) ?r10
    refine tR 10 rfl hx (v := undef) (.inr ⟨by rfl, rfl⟩) ?r11
    refine tR 11 rfl hx (v := undef) (.inr ⟨by rfl, rfl⟩) ?r12
    try simp only [Act.put, List.getElem_toArray, List.getElem_cons_zero, List.getElem_cons_succ, List.setIfInBounds_toArray, List.set_cons_zero, List.set_cons_succ]
    refine tR 12 rfl hx (v := undef) (.inr ⟨by rfl, rfl⟩) ?r13
    refine tR 13 rfl hx (v := ?v14) (.inl ⟨by rfl, ?y14⟩) ?r14
    case y14 => intro w' h; (try dsimp only at h); go_simp; try with_reducible rfl
    try simp only [Act.put, List.getElem_toArray, List.getElem_cons_zero, List.getElem_cons_succ, List.setIfInBounds_toArray, List.set_cons_zero, List.set_cons_succ]
    refine E_done (by kernel_rfl) ?_ _
    have hb := hx.1
    generalize w3.drew = w4 at *
    have KF4 := Lib.hid (KF2.out.belowS hb)
    have KS4 := Lib.hid (KS2.out.belowS hb)
    have KA4 := Lib.hid (KA2.out.belowS hb)
    have KR4 := Lib.hid (KR2.out.belowS hb)
    have HB4 := Lib.hid (HB2.out.trans (hb.mono HB2.out.size))
    have HWZ4 := Lib.hid (Nat.le_trans HWZ2.out hb.size)
    clear hx hb
    obtain ⟨rr0, rr1, rr2, rr3, rr4, rr5⟩ := zero_cells KR4.out
    have rrl := KR4.out.lt
    have rrz0 := KR4.out.frozen 0
    have rrz1 := KR4.out.frozen 1
    have rrz2 := KR4.out.frozen 2
    have rrz3 := KR4.out.frozen 3
    have rrz4 := KR4.out.frozen 4
    have rrz5 := KR4.out.frozen 5
    go_wp2_with fail
    refine zero_end KR4.out (Φ := bodyPost _ _ _ _ _) (fun wf ht kf => ?_)
    obtain ⟨g0, g1, g2, g3, g4, g5⟩ := zero_cells kf
    have hbf : Below w.heap.size w wf := HB4.out.trans (ht.below HB4.out.size (fun k e => by rw [show k = w.heap.size + 1 + 1 + 1 from e]; omega))
    exact bodyPost_ret (v := .tuple #[.agg #[.int .i64 0, .slice none 0 0, .slice none 0 0, .slice none 0 0, .slice none 0 0, .slice none 0 0], .int .i64 1]) (by simp [results, Tryz.results9, go_sem, g0, g1, g2, g3, g4, g5]) rfl (RefDoSaid.err HV.out (by decide) hbf)
  have q1 : decide (kd < 1) = false := decide_eq_false hk1
  by_cases hk2 : 8 < kd
  · have q2 : decide (8 < kd) = true := decide_eq_true hk2
    have HV := Lib.hid (show (doD F S ⟨kd, pl, ld, nm, ot, dy, pr, rl, rh⟩).1 = 1 by unfold doD; rw [if_neg (not_not_intro HE.out), if_pos (fun e => by have := e.2.1; dsimp only at this; omega)])
    clear hk1 hk2
    refine wp_region_E 14 (fun w' : World => Below w3.heap.size w3 w' ∧ (w'.cell? ⟨w.heap.size + 1 + 1, 0, none⟩ = some (.int .i64 kd) ∧ w'.cell? ⟨w.heap.size + 1 + 1, 1, none⟩ = some (.int .i64 pl) ∧ w'.cell? ⟨w.heap.size + 1 + 1, 2, none⟩ = some (.int .i64 ld) ∧ w'.cell? ⟨w.heap.size + 1 + 1, 3, none⟩ = some (.string nm) ∧ w'.cell? ⟨w.heap.size + 1 + 1, 4, none⟩ = some (.string ot) ∧ w'.cell? ⟨w.heap.size + 1 + 1, 5, none⟩ = some (.int .i64 dy) ∧ w'.cell? ⟨w.heap.size + 1 + 1, 6, none⟩ = some (.int .i64 pr) ∧ w'.cell? ⟨w.heap.size + 1 + 1, 7, none⟩ = some (.int .i64 rl) ∧ w'.cell? ⟨w.heap.size + 1 + 1, 8, none⟩ = some (.int .i64 rh))) (by kernel_rfl) ?_
    refine tR 0 rfl hx (v := ?v15) (.inl ⟨by rfl, ?y15⟩) ?r15
    case y15 => intro w' h; (try dsimp only at h); go_simp; try with_reducible rfl
    refine tR 1 rfl hx (v := ?v16) (.inl ⟨by rfl, ?y16⟩) ?r16
    case y16 => intro w' h; (try dsimp only at h); go_simp; try with_reducible rfl
    refine tR 2 rfl hx (v := ?v17) (.inl ⟨by rfl, ?y17⟩) ?r17
    case y17 => intro w' h; (try dsimp only at h); go_simp; try with_reducible rfl
    try simp only [Act.put, List.getElem_toArray, List.getElem_cons_zero, List.getElem_cons_succ, List.setIfInBounds_toArray, List.set_cons_zero, List.set_cons_succ]
    refine tR 3 rfl hx (v := ?v18) (.inl ⟨by rfl, ?y18⟩) ?r18
    case y18 => intro w' h; (try dsimp only at h); go_simp; try with_reducible rfl
    refine tR 4 rfl hx (v := ?v19) (.inl ⟨by rfl, ?y19⟩) ?r19
    case y19 => intro w' h; (try dsimp only at h); go_simp; try with_reducible rfl
    refine tR 5 rfl hx (v := ?v20) (.inl ⟨by rfl, ?y20⟩) ?r20
    case y20 => intro w' h; (try dsimp only at h); go_simp; try with_reducible rfl
    try simp only [Act.put, List.getElem_toArray, List.getElem_cons_zero, List.getElem_cons_succ, List.setIfInBounds_toArray, List.set_cons_zero, List.set_cons_succ]
    refine tR 6 rfl hx (v := ?v21) (.inl ⟨by rfl, ?y21⟩) ?r21
    case y21 => intro w' h; (try dsimp only at h); go_simp; try with_reducible rfl
    refine tR 7 rfl hx (v := ?v22) (.inl ⟨by rfl, ?y22⟩) ?r22
    case y22 => intro w' h; (try dsimp only at h); go_simp; try with_reducible rfl
    refine tR 8 rfl hx (v := ?v23) (.inl ⟨by rfl, ?y23⟩) ?r23
    case y23 => intro w' h; (try dsimp only at h); go_simp; try with_reducible rfl
    try simp only [Act.put, List.getElem_toArray, List.getElem_cons_zero, List.getElem_cons_succ, List.setIfInBounds_toArray, List.set_cons_zero, List.set_cons_succ]
    refine tR 9 rfl hx (v := undef) (.inr ⟨by rfl, rfl⟩) ?r24
    refine tR 10 rfl hx (v := undef) (.inr ⟨by rfl, rfl⟩) ?r25
    refine tR 11 rfl hx (v := undef) (.inr ⟨by rfl, rfl⟩) ?r26
    try simp only [Act.put, List.getElem_toArray, List.getElem_cons_zero, List.getElem_cons_succ, List.setIfInBounds_toArray, List.set_cons_zero, List.set_cons_succ]
    refine tR 12 rfl hx (v := undef) (.inr ⟨by rfl, rfl⟩) ?r27
    refine tR 13 rfl hx (v := ?v28) (.inl ⟨by rfl, ?y28⟩) ?r28
    case y28 => intro w' h; (try dsimp only at h); go_simp; try with_reducible rfl
    try simp only [Act.put, List.getElem_toArray, List.getElem_cons_zero, List.getElem_cons_succ, List.setIfInBounds_toArray, List.set_cons_zero, List.set_cons_succ]
    refine E_done (by kernel_rfl) ?_ _
    have hb := hx.1
    generalize w3.drew = w4 at *
    have KF4 := Lib.hid (KF2.out.belowS hb)
    have KS4 := Lib.hid (KS2.out.belowS hb)
    have KA4 := Lib.hid (KA2.out.belowS hb)
    have KR4 := Lib.hid (KR2.out.belowS hb)
    have HB4 := Lib.hid (HB2.out.trans (hb.mono HB2.out.size))
    have HWZ4 := Lib.hid (Nat.le_trans HWZ2.out hb.size)
    clear hx hb
    obtain ⟨rr0, rr1, rr2, rr3, rr4, rr5⟩ := zero_cells KR4.out
    have rrl := KR4.out.lt
    have rrz0 := KR4.out.frozen 0
    have rrz1 := KR4.out.frozen 1
    have rrz2 := KR4.out.frozen 2
    have rrz3 := KR4.out.frozen 3
    have rrz4 := KR4.out.frozen 4
    have rrz5 := KR4.out.frozen 5
    go_wp2_with fail
    refine zero_end KR4.out (Φ := bodyPost _ _ _ _ _) (fun wf ht kf => ?_)
    obtain ⟨g0, g1, g2, g3, g4, g5⟩ := zero_cells kf
    have hbf : Below w.heap.size w wf := HB4.out.trans (ht.below HB4.out.size (fun k e => by rw [show k = w.heap.size + 1 + 1 + 1 from e]; omega))
    exact bodyPost_ret (v := .tuple #[.agg #[.int .i64 0, .slice none 0 0, .slice none 0 0, .slice none 0 0, .slice none 0 0, .slice none 0 0], .int .i64 1]) (by simp [results, Tryz.results9, go_sem, g0, g1, g2, g3, g4, g5]) rfl (RefDoSaid.err HV.out (by decide) hbf)
  have q2 : decide (8 < kd) = false := decide_eq_false hk2
  have HK := Lib.hid (show 1 ≤ kd ∧ kd ≤ 8 by omega)
  clear hk1 hk2
  obtain ⟨bq, hbq⟩ : ∃ bq, chrB (namedM ⟨kd, pl, ld, nm, ot, dy, pr, rl, rh⟩) ⟨kd, pl, ld, nm, ot, dy, pr, rl, rh⟩ = bq := ⟨_, rfl⟩
  have HBQ := Lib.hid (show chrB ⟨kd, pl, ld, nm, ot, dy, pr, rl, rh⟩ (namedM ⟨kd, pl, ld, nm, ot, dy, pr, rl, rh⟩) = bq by rw [chrB_comm]; exact hbq)
  have heq : ∀ w, (Op.equalIn 10000 34 (.agg (chrC (namedM ⟨kd, pl, ld, nm, ot, dy, pr, rl, rh⟩))) (.agg #[.int .i64 kd, .int .i64 pl, .int .i64 ld, .string nm, .string ot, .int .i64 dy, .int .i64 pr, .int .i64 rl, .int .i64 rh])).run Tryz.prog w = .ok bq w := fun w => by
    have := run_equalIn_chore 9997 (namedM ⟨kd, pl, ld, nm, ot, dy, pr, rl, rh⟩) ⟨kd, pl, ld, nm, ot, dy, pr, rl, rh⟩ w
    rw [hbq] at this
    exact this
  clear hbq
  refine wp_region_E 14 (fun w' : World => Below w3.heap.size w3 w' ∧ (w'.cell? ⟨w.heap.size + 1 + 1, 0, none⟩ = some (.int .i64 kd) ∧ w'.cell? ⟨w.heap.size + 1 + 1, 1, none⟩ = some (.int .i64 pl) ∧ w'.cell? ⟨w.heap.size + 1 + 1, 2, none⟩ = some (.int .i64 ld) ∧ w'.cell? ⟨w.heap.size + 1 + 1, 3, none⟩ = some (.string nm) ∧ w'.cell? ⟨w.heap.size + 1 + 1, 4, none⟩ = some (.string ot) ∧ w'.cell? ⟨w.heap.size + 1 + 1, 5, none⟩ = some (.int .i64 dy) ∧ w'.cell? ⟨w.heap.size + 1 + 1, 6, none⟩ = some (.int .i64 pr) ∧ w'.cell? ⟨w.heap.size + 1 + 1, 7, none⟩ = some (.int .i64 rl) ∧ w'.cell? ⟨w.heap.size + 1 + 1, 8, none⟩ = some (.int .i64 rh))) (by kernel_rfl) ?_
  refine tR 0 rfl hx (v := ?v29) (.inl ⟨by rfl, ?y29⟩) ?r29
  case y29 => intro w' h; (try dsimp only at h); go_simp; try with_reducible rfl
  refine tR 1 rfl hx (v := ?v30) (.inl ⟨by rfl, ?y30⟩) ?r30
  case y30 => intro w' h; (try dsimp only at h); go_simp; try with_reducible rfl
  refine tR 2 rfl hx (v := ?v31) (.inl ⟨by rfl, ?y31⟩) ?r31
  case y31 => intro w' h; (try dsimp only at h); go_simp; try with_reducible rfl
  try simp only [Act.put, List.getElem_toArray, List.getElem_cons_zero, List.getElem_cons_succ, List.setIfInBounds_toArray, List.set_cons_zero, List.set_cons_succ]
  refine tR 3 rfl hx (v := ?v32) (.inl ⟨by rfl, ?y32⟩) ?r32
  case y32 => intro w' h; (try dsimp only at h); go_simp; try with_reducible rfl
  refine tR 4 rfl hx (v := ?v33) (.inl ⟨by rfl, ?y33⟩) ?r33
  case y33 => intro w' h; (try dsimp only at h); go_simp; try with_reducible rfl
  refine tR 5 rfl hx (v := ?v34) (.inl ⟨by rfl, ?y34⟩) ?r34
  case y34 => intro w' h; (try dsimp only at h); go_simp; try with_reducible rfl
  try simp only [Act.put, List.getElem_toArray, List.getElem_cons_zero, List.getElem_cons_succ, List.setIfInBounds_toArray, List.set_cons_zero, List.set_cons_succ]
  refine tR 6 rfl hx (v := ?v35) (.inl ⟨by rfl, ?y35⟩) ?r35
  case y35 => intro w' h; (try dsimp only at h); go_simp; try with_reducible rfl
  refine tR 7 rfl hx (v := ?v36) (.inl ⟨by rfl, ?y36⟩) ?r36
  case y36 => intro w' h; (try dsimp only at h); go_simp; try with_reducible rfl
  refine tR 8 rfl hx (v := ?v37) (.inl ⟨by rfl, ?y37⟩) ?r37
  case y37 => intro w' h; (try dsimp only at h); go_simp; try with_reducible rfl
  try simp only [Act.put, List.getElem_toArray, List.getElem_cons_zero, List.getElem_cons_succ, List.setIfInBounds_toArray, List.set_cons_zero, List.set_cons_succ]
  refine tR 9 rfl hx (v := ?v38) (.inl ⟨by rfl, ?y38⟩) ?r38
  case y38 => intro w' h; (try dsimp only at h); go_simp; try with_reducible rfl
  refine tR 11 rfl hx (v := ?v39) (.inl ⟨by rfl, ?y39⟩) ?r39
  case y39 => intro w' h; (try dsimp only at h); go_simp; try with_reducible rfl
  try simp only [Act.put, List.getElem_toArray, List.getElem_cons_zero, List.getElem_cons_succ, List.setIfInBounds_toArray, List.set_cons_zero, List.set_cons_succ]
  refine E_step (i := 10) (o := _) (by kernel_rfl) rfl (fun K hK => ?_)
  go_simp
  refine (refNamed_any ⟨kd, pl, ld, nm, ot, dy, pr, rl, rh⟩ _).mono ?_
  rintro e w5 ⟨rfl, hb5⟩
  (try dsimp only)
  have hb45 : Below w3.heap.size w3 w5 := hx.1.trans (hb5.mono hx.1.size)
  have hx5 := HSTW.out w5 hb45
  refine hK.out _ _ (fun _ => hx5) ?_
  clear hK K
  try simp only [Act.put, List.getElem_toArray, List.getElem_cons_zero, List.getElem_cons_succ, List.setIfInBounds_toArray, List.set_cons_zero, List.set_cons_succ]
  refine tR 12 rfl hx5 (v := ?v40) (.inl ⟨by rfl, ?y40⟩) ?r40
  case y40 => intro w' h; (try dsimp only at h); go_simp; try with_reducible rfl
  refine tR 13 rfl hx5 (v := ?v41) (.inl ⟨by rfl, ?y41⟩) ?r41
  case y41 => intro w' h; (try dsimp only at h); go_simp; try with_reducible rfl
  try simp only [Act.put, List.getElem_toArray, List.getElem_cons_zero, List.getElem_cons_succ, List.setIfInBounds_toArray, List.set_cons_zero, List.set_cons_succ]
  refine E_done (by kernel_rfl) ?_ _
  clear hx hx5 hb5 heq q1 q2
  have KF5 := Lib.hid (KF2.out.belowS hb45)
  have KS5 := Lib.hid (KS2.out.belowS hb45)
  have KA5 := Lib.hid (KA2.out.belowS hb45)
  have KR5 := Lib.hid (KR2.out.belowS hb45)
  have HB5 := Lib.hid (HB2.out.trans (hb45.mono HB2.out.size))
  have HWZ5 := Lib.hid (Nat.le_trans HWZ2.out hb45.size)
  clear hb45 KF2 KS2 KA2 KR2 HSTW
  cases bq with
  | false =>
    have HV := Lib.hid (show (doD F S ⟨kd, pl, ld, nm, ot, dy, pr, rl, rh⟩).1 = 1 by unfold doD; rw [if_neg (not_not_intro HE.out), if_pos (fun e => by have h := e.2.2; rw [HBQ.out] at h; cases h)])
    obtain ⟨rr0, rr1, rr2, rr3, rr4, rr5⟩ := zero_cells KR5.out
    have rrl := KR5.out.lt
    have rrz0 := KR5.out.frozen 0
    have rrz1 := KR5.out.frozen 1
    have rrz2 := KR5.out.frozen 2
    have rrz3 := KR5.out.frozen 3
    have rrz4 := KR5.out.frozen 4
    have rrz5 := KR5.out.frozen 5
    go_wp2_with fail
    refine zero_end KR5.out (Φ := bodyPost _ _ _ _ _) (fun wf ht kf => ?_)
    obtain ⟨g0, g1, g2, g3, g4, g5⟩ := zero_cells kf
    have hbf : Below w.heap.size w wf := HB5.out.trans (ht.below HB5.out.size (fun k e => by rw [show k = w.heap.size + 1 + 1 + 1 from e]; omega))
    exact bodyPost_ret (v := .tuple #[.agg #[.int .i64 0, .slice none 0 0, .slice none 0 0, .slice none 0 0, .slice none 0 0, .slice none 0 0], .int .i64 1]) (by simp [results, Tryz.results9, go_sem, g0, g1, g2, g3, g4, g5]) rfl (RefDoSaid.err HV.out (by decide) hbf)
  | true =>
  have HD := Lib.hid (show (doD F S ⟨kd, pl, ld, nm, ot, dy, pr, rl, rh⟩) = choreD F S ⟨kd, pl, ld, nm, ot, dy, pr, rl, rh⟩ by unfold doD; rw [if_neg (not_not_intro HE.out), if_neg (not_not_intro ⟨HK.out.1, HK.out.2, HBQ.out⟩)])
  have hbd : Below w5.heap.size w5 w5.drew := (Below.refl _ w5).drew
  obtain ⟨f0, f1⟩ := frm_cells KF5.out
  have fl := KF5.out.lt
  obtain ⟨d0, d1, d2, d3, d4, d5⟩ := sto_cells (S := S) KS5.out
  have dl := KS5.out.lt
  obtain ⟨c0, c1, c2, c3, c4, c5, c6, c7, c8⟩ := chr_cells KA5.out
  have cl := KA5.out.lt
  go_upto_region 6 with fail
  clear f0 f1 fl d0 d1 d2 d3 d4 d5 dl c0 c1 c2 c3 c4 c5 c6 c7 c8 cl
  have KF6 := Lib.hid (KF5.out.belowS hbd)
  have KS6 := Lib.hid (KS5.out.belowS hbd)
  have KA6 := Lib.hid (KA5.out.belowS hbd)
  have KR6 := Lib.hid (KR5.out.belowS hbd)
  have HB6 := Lib.hid (HB5.out.trans (hbd.mono HB5.out.size))
  have HWZ6 := Lib.hid (Nat.le_trans HWZ5.out hbd.size)
  refine wp_region_E 9 (fun w' : World => (w'.cell? ⟨w.heap.size, 0, none⟩ = some (.slice F.pa F.ps.length F.pc) ∧ w'.cell? ⟨w.heap.size, 1, none⟩ = some (.int .i64 F.dry)) ∧ (w'.cell? ⟨w.heap.size + 1 + 1, 0, none⟩ = some (.int .i64 kd) ∧ w'.cell? ⟨w.heap.size + 1 + 1, 1, none⟩ = some (.int .i64 pl) ∧ w'.cell? ⟨w.heap.size + 1 + 1, 2, none⟩ = some (.int .i64 ld) ∧ w'.cell? ⟨w.heap.size + 1 + 1, 3, none⟩ = some (.string nm) ∧ w'.cell? ⟨w.heap.size + 1 + 1, 4, none⟩ = some (.string ot) ∧ w'.cell? ⟨w.heap.size + 1 + 1, 5, none⟩ = some (.int .i64 dy) ∧ w'.cell? ⟨w.heap.size + 1 + 1, 6, none⟩ = some (.int .i64 pr) ∧ w'.cell? ⟨w.heap.size + 1 + 1, 7, none⟩ = some (.int .i64 rl) ∧ w'.cell? ⟨w.heap.size + 1 + 1, 8, none⟩ = some (.int .i64 rh))) (by kernel_rfl) ?_
  generalize w5.drew = w6 at *
  clear hbd KF5 KS5 KA5 KR5
  have hx : (fun w' : World => (w'.cell? ⟨w.heap.size, 0, none⟩ = some (.slice F.pa F.ps.length F.pc) ∧ w'.cell? ⟨w.heap.size, 1, none⟩ = some (.int .i64 F.dry)) ∧ (w'.cell? ⟨w.heap.size + 1 + 1, 0, none⟩ = some (.int .i64 kd) ∧ w'.cell? ⟨w.heap.size + 1 + 1, 1, none⟩ = some (.int .i64 pl) ∧ w'.cell? ⟨w.heap.size + 1 + 1, 2, none⟩ = some (.int .i64 ld) ∧ w'.cell? ⟨w.heap.size + 1 + 1, 3, none⟩ = some (.string nm) ∧ w'.cell? ⟨w.heap.size + 1 + 1, 4, none⟩ = some (.string ot) ∧ w'.cell? ⟨w.heap.size + 1 + 1, 5, none⟩ = some (.int .i64 dy) ∧ w'.cell? ⟨w.heap.size + 1 + 1, 6, none⟩ = some (.int .i64 pr) ∧ w'.cell? ⟨w.heap.size + 1 + 1, 7, none⟩ = some (.int .i64 rl) ∧ w'.cell? ⟨w.heap.size + 1 + 1, 8, none⟩ = some (.int .i64 rh))) w6 := ⟨⟨KF6.out.cell 0, KF6.out.cell 1⟩, KA6.out.cell 0, KA6.out.cell 1, KA6.out.cell 2, KA6.out.cell 3, KA6.out.cell 4, KA6.out.cell 5, KA6.out.cell 6, KA6.out.cell 7, KA6.out.cell 8⟩
  obtain ⟨d0, d1, d2, d3, d4, d5⟩ := sto_cells (S := S) KS6.out
  have dl := KS6.out.lt
  refine tk 0 rfl hx (v := ?v42) (.inl ⟨by rfl, ?y42⟩) ?r42
  case y42 => intro w' h; (try dsimp only at h); go_simp; try with_reducible rfl
  refine tk 3 rfl hx (v := ?v43) (.inl ⟨by rfl, ?y43⟩) ?r43
  case y43 => intro w' h; (try dsimp only at h); go_simp; try with_reducible rfl
  try simp only [Act.put, List.getElem_toArray, List.getElem_cons_zero, List.getElem_cons_succ, List.setIfInBounds_toArray, List.set_cons_zero, List.set_cons_succ]
  refine E_step (i := 1) (o := _) (by kernel_rfl) rfl (fun K hK => ?_)
  go_simp
  refine hK.out _ _ (fun _ => hx) ?_
  clear hK K
  try simp only [Act.put, List.getElem_toArray, List.getElem_cons_zero, List.getElem_cons_succ, List.setIfInBounds_toArray, List.set_cons_zero, List.set_cons_succ]
  refine E_step (i := 2) (o := _) (by kernel_rfl) rfl (fun K hK => ?_)
  go_simp
  refine ((show Calls Tryz.prog 24 #[.agg #[.int .i64 S.year, .slice S.la S.last.length S.lc, .slice S.ga S.given.length S.gc, .slice S.ha S.heaps.length S.hc, .slice S.ua S.used.length S.uc, .slice S.wa S.waste.length S.wc]] w6 _ from refTwinS_any S w6 (HS.out.below HB6.out) HFIT.out (by have := (years_ok HE.out).2.1; have := (store_ok HE.out).1; omega) (by have := (store_ok HE.out).2.1; have := (store_ok HE.out).1; omega))).mono ?_
  rintro e w7 ⟨⟨T, rfl, hT, hsm⟩, hb7⟩
  (try dsimp only)
  unfold stoV
  have KF7 := Lib.hid (KF6.out.belowS hb7)
  have KS7 := Lib.hid (KS6.out.belowS hb7)
  have KA7 := Lib.hid (KA6.out.belowS hb7)
  have KR7 := Lib.hid (KR6.out.belowS hb7)
  have HB7 := Lib.hid (HB6.out.trans (hb7.mono HB6.out.size))
  have HWZ7 := Lib.hid (Nat.le_trans HWZ6.out hb7.size)
  have hx7 : (fun w' : World => (w'.cell? ⟨w.heap.size, 0, none⟩ = some (.slice F.pa F.ps.length F.pc) ∧ w'.cell? ⟨w.heap.size, 1, none⟩ = some (.int .i64 F.dry)) ∧ (w'.cell? ⟨w.heap.size + 1 + 1, 0, none⟩ = some (.int .i64 kd) ∧ w'.cell? ⟨w.heap.size + 1 + 1, 1, none⟩ = some (.int .i64 pl) ∧ w'.cell? ⟨w.heap.size + 1 + 1, 2, none⟩ = some (.int .i64 ld) ∧ w'.cell? ⟨w.heap.size + 1 + 1, 3, none⟩ = some (.string nm) ∧ w'.cell? ⟨w.heap.size + 1 + 1, 4, none⟩ = some (.string ot) ∧ w'.cell? ⟨w.heap.size + 1 + 1, 5, none⟩ = some (.int .i64 dy) ∧ w'.cell? ⟨w.heap.size + 1 + 1, 6, none⟩ = some (.int .i64 pr) ∧ w'.cell? ⟨w.heap.size + 1 + 1, 7, none⟩ = some (.int .i64 rl) ∧ w'.cell? ⟨w.heap.size + 1 + 1, 8, none⟩ = some (.int .i64 rh))) w7 := ⟨⟨KF7.out.cell 0, KF7.out.cell 1⟩, KA7.out.cell 0, KA7.out.cell 1, KA7.out.cell 2, KA7.out.cell 3, KA7.out.cell 4, KA7.out.cell 5, KA7.out.cell 6, KA7.out.cell 7, KA7.out.cell 8⟩
  have HT := Lib.hid hT
  have HSM := Lib.hid hsm
  have HS67 := Lib.hid hb7.size
  have HET := Lib.hid (show storeE F T = 0 by rw [same_storeE hsm]; exact HE.out)
  have HFITT := Lib.hid (show T.fit from same_fit hsm HFIT.out)
  clear hT hsm hb7 hx d0 d1 d2 d3 d4 d5 dl KF6 KS6 KA6 KR6
  refine hK.out _ _ (fun _ => hx7) ?_
  clear hK K
  try simp only [Act.put, List.getElem_toArray, List.getElem_cons_zero, List.getElem_cons_succ, List.setIfInBounds_toArray, List.set_cons_zero, List.set_cons_succ]
  refine E_step (i := 4) (o := _) (by kernel_rfl) rfl (fun K hK => ?_)
  go_simp
  refine ((show Calls Tryz.prog 23 #[.agg #[.slice F.pa F.ps.length F.pc, .int .i64 F.dry], .agg #[.int .i64 T.year, .slice T.la T.last.length T.lc, .slice T.ga T.given.length T.gc, .slice T.ha T.heaps.length T.hc, .slice T.ua T.used.length T.uc, .slice T.wa T.waste.length T.wc], .agg #[.int .i64 kd, .int .i64 pl, .int .i64 ld, .string nm, .string ot, .int .i64 dy, .int .i64 pr, .int .i64 rl, .int .i64 rh]] w7 _ from refDone_any w6.heap.size F T ⟨kd, pl, ld, nm, ot, dy, pr, rl, rh⟩ w7 (fun w' hb => HF.out.below (HB7.out.trans (hb.mono HB6.out.size))) HT.out HS67.out HET.out HFITT.out HNM.out HNO.out HK.out)).mono ?_
  rintro e w8 ⟨⟨V, rfl, hV⟩, hb8⟩
  (try dsimp only)
  have HB8 := Lib.hid (show Turn (Hot T) w7 w8 from hb8)
  have hbb : Below w6.heap.size w7 w8 := hb8.below HS67.out (fun k e => (HT.out.hot e).1)
  have HW6 := Lib.hid (show w.heap.size + 4 ≤ w6.heap.size from HWZ6.out)
  have KF8 := Lib.hid (HB8.out.blk KF7.out (fun e => by have := (HT.out.hot e).1; have := HW6.out; omega))
  have KS8 := Lib.hid (HB8.out.blk KS7.out (fun e => by have := (HT.out.hot e).1; have := HW6.out; omega))
  have KA8 := Lib.hid (HB8.out.blk KA7.out (fun e => by have := (HT.out.hot e).1; have := HW6.out; omega))
  have KR8 := Lib.hid (HB8.out.blk KR7.out (fun e => by have := (HT.out.hot e).1; have := HW6.out; omega))
  have HBB8 := Lib.hid (HB7.out.trans (hbb.mono HB6.out.size))
  have hx8 : (fun w' : World => (w'.cell? ⟨w.heap.size, 0, none⟩ = some (.slice F.pa F.ps.length F.pc) ∧ w'.cell? ⟨w.heap.size, 1, none⟩ = some (.int .i64 F.dry)) ∧ (w'.cell? ⟨w.heap.size + 1 + 1, 0, none⟩ = some (.int .i64 kd) ∧ w'.cell? ⟨w.heap.size + 1 + 1, 1, none⟩ = some (.int .i64 pl) ∧ w'.cell? ⟨w.heap.size + 1 + 1, 2, none⟩ = some (.int .i64 ld) ∧ w'.cell? ⟨w.heap.size + 1 + 1, 3, none⟩ = some (.string nm) ∧ w'.cell? ⟨w.heap.size + 1 + 1, 4, none⟩ = some (.string ot) ∧ w'.cell? ⟨w.heap.size + 1 + 1, 5, none⟩ = some (.int .i64 dy) ∧ w'.cell? ⟨w.heap.size + 1 + 1, 6, none⟩ = some (.int .i64 pr) ∧ w'.cell? ⟨w.heap.size + 1 + 1, 7, none⟩ = some (.int .i64 rl) ∧ w'.cell? ⟨w.heap.size + 1 + 1, 8, none⟩ = some (.int .i64 rh))) w8 := ⟨⟨KF8.out.cell 0, KF8.out.cell 1⟩, KA8.out.cell 0, KA8.out.cell 1, KA8.out.cell 2, KA8.out.cell 3, KA8.out.cell 4, KA8.out.cell 5, KA8.out.cell 6, KA8.out.cell 7, KA8.out.cell 8⟩
  have HVM := Lib.hid (show MadeIf w6.heap.size T (choreD F T ⟨kd, pl, ld, nm, ot, dy, pr, rl, rh⟩) w7 w8 V from hV)
  unfold stoV
  obtain ⟨xx, hxx⟩ : ∃ xx, (choreD F T ⟨kd, pl, ld, nm, ot, dy, pr, rl, rh⟩).1 = xx := ⟨_, rfl⟩
  rw [hxx]
  have HXX := Lib.hid hxx
  obtain ⟨d0, d1, d2, d3, d4, d5⟩ := sto_cells (S := S) KS8.out
  have dl := KS8.out.lt
  have dz0 := KS8.out.frozen 0
  have dz1 := KS8.out.frozen 1
  have dz2 := KS8.out.frozen 2
  have dz3 := KS8.out.frozen 3
  have dz4 := KS8.out.frozen 4
  have dz5 := KS8.out.frozen 5
  clear hb8 hbb hV hxx hx7 KF7 KS7 KA7 KR7
  refine hK.out _ _ (fun _ => hx8) ?_
  clear hK K
  try simp only [Act.put, List.getElem_toArray, List.getElem_cons_zero, List.getElem_cons_succ, List.setIfInBounds_toArray, List.set_cons_zero, List.set_cons_succ]
  refine tk 5 rfl hx8 (v := ?v44) (.inl ⟨by rfl, ?y44⟩) ?r44
  case y44 => intro w' h; (try dsimp only at h); go_simp; try with_reducible rfl
  refine tk 6 rfl hx8 (v := ?v45) (.inl ⟨by rfl, ?y45⟩) ?r45
  case y45 => intro w' h; (try dsimp only at h); go_simp; try with_reducible rfl
  refine tk 7 rfl hx8 (v := ?v46) (.inl ⟨by rfl, ?y46⟩) ?r46
  case y46 => intro w' h; (try dsimp only at h); go_simp; try with_reducible rfl
  try simp only [Act.put, List.getElem_toArray, List.getElem_cons_zero, List.getElem_cons_succ, List.setIfInBounds_toArray, List.set_cons_zero, List.set_cons_succ]
  refine E_step (i := 8) (o := _) (by kernel_rfl) rfl (fun K hK => ?_)
  go_simp
  have kf : Blk ((((((w8.setCell ⟨w.heap.size + 1, 0, none⟩ (.int .i64 V.year)).setCell ⟨w.heap.size + 1, 1, none⟩ (.slice V.la V.last.length V.lc)).setCell ⟨w.heap.size + 1, 2, none⟩ (.slice V.ga V.given.length V.gc)).setCell ⟨w.heap.size + 1, 3, none⟩ (.slice V.ha V.heaps.length V.hc)).setCell ⟨w.heap.size + 1, 4, none⟩ (.slice V.ua V.used.length V.uc)).setCell ⟨w.heap.size + 1, 5, none⟩ (.slice V.wa V.waste.length V.wc)) (w.heap.size + 1) #[.int .i64 V.year, .slice V.la V.last.length V.lc, .slice V.ga V.given.length V.gc, .slice V.ha V.heaps.length V.hc, .slice V.ua V.used.length V.uc, .slice V.wa V.waste.length V.wc] 29 := ((((((KS8.out.set 0 (.int .i64 V.year)).set 1 (.slice V.la V.last.length V.lc)).set 2 (.slice V.ga V.given.length V.gc)).set 3 (.slice V.ha V.heaps.length V.hc)).set 4 (.slice V.ua V.used.length V.uc)).set 5 (.slice V.wa V.waste.length V.wc))
  have ht : Turn (fun k => k = w.heap.size + 1) w8 ((((((w8.setCell ⟨w.heap.size + 1, 0, none⟩ (.int .i64 V.year)).setCell ⟨w.heap.size + 1, 1, none⟩ (.slice V.la V.last.length V.lc)).setCell ⟨w.heap.size + 1, 2, none⟩ (.slice V.ga V.given.length V.gc)).setCell ⟨w.heap.size + 1, 3, none⟩ (.slice V.ha V.heaps.length V.hc)).setCell ⟨w.heap.size + 1, 4, none⟩ (.slice V.ua V.used.length V.uc)).setCell ⟨w.heap.size + 1, 5, none⟩ (.slice V.wa V.waste.length V.wc)) := (((((((Turn.of_below (X := fun k => k = w.heap.size + 1) (Below.refl _ w8)).setCell (B := w.heap.size + 1) rfl 0 (.int .i64 V.year)).setCell (B := w.heap.size + 1) rfl 1 (.slice V.la V.last.length V.lc)).setCell (B := w.heap.size + 1) rfl 2 (.slice V.ga V.given.length V.gc)).setCell (B := w.heap.size + 1) rfl 3 (.slice V.ha V.heaps.length V.hc)).setCell (B := w.heap.size + 1) rfl 4 (.slice V.ua V.used.length V.uc)).setCell (B := w.heap.size + 1) rfl 5 (.slice V.wa V.waste.length V.wc))
  have KF9 := Lib.hid (ht.blk KF8.out (fun e => by have := (show w.heap.size = w.heap.size + 1 from e); omega))
  have KA9 := Lib.hid (ht.blk KA8.out (fun e => by have := (show w.heap.size + 1 + 1 = w.heap.size + 1 from e); omega))
  have KR9 := Lib.hid (ht.blk KR8.out (fun e => by have := (show w.heap.size + 1 + 1 + 1 = w.heap.size + 1 from e); omega))
  have KS9 := Lib.hid kf
  have hx9 : (fun w' : World => (w'.cell? ⟨w.heap.size, 0, none⟩ = some (.slice F.pa F.ps.length F.pc) ∧ w'.cell? ⟨w.heap.size, 1, none⟩ = some (.int .i64 F.dry)) ∧ (w'.cell? ⟨w.heap.size + 1 + 1, 0, none⟩ = some (.int .i64 kd) ∧ w'.cell? ⟨w.heap.size + 1 + 1, 1, none⟩ = some (.int .i64 pl) ∧ w'.cell? ⟨w.heap.size + 1 + 1, 2, none⟩ = some (.int .i64 ld) ∧ w'.cell? ⟨w.heap.size + 1 + 1, 3, none⟩ = some (.string nm) ∧ w'.cell? ⟨w.heap.size + 1 + 1, 4, none⟩ = some (.string ot) ∧ w'.cell? ⟨w.heap.size + 1 + 1, 5, none⟩ = some (.int .i64 dy) ∧ w'.cell? ⟨w.heap.size + 1 + 1, 6, none⟩ = some (.int .i64 pr) ∧ w'.cell? ⟨w.heap.size + 1 + 1, 7, none⟩ = some (.int .i64 rl) ∧ w'.cell? ⟨w.heap.size + 1 + 1, 8, none⟩ = some (.int .i64 rh))) ((((((w8.setCell ⟨w.heap.size + 1, 0, none⟩ (.int .i64 V.year)).setCell ⟨w.heap.size + 1, 1, none⟩ (.slice V.la V.last.length V.lc)).setCell ⟨w.heap.size + 1, 2, none⟩ (.slice V.ga V.given.length V.gc)).setCell ⟨w.heap.size + 1, 3, none⟩ (.slice V.ha V.heaps.length V.hc)).setCell ⟨w.heap.size + 1, 4, none⟩ (.slice V.ua V.used.length V.uc)).setCell ⟨w.heap.size + 1, 5, none⟩ (.slice V.wa V.waste.length V.wc)) := ⟨⟨KF9.out.cell 0, KF9.out.cell 1⟩, KA9.out.cell 0, KA9.out.cell 1, KA9.out.cell 2, KA9.out.cell 3, KA9.out.cell 4, KA9.out.cell 5, KA9.out.cell 6, KA9.out.cell 7, KA9.out.cell 8⟩
  have HT9 := Lib.hid ht
  have HB9 := Lib.hid (HBB8.out.trans (ht.below HBB8.out.size (fun k e => by rw [show k = w.heap.size + 1 from e]; omega)))
  clear kf ht d0 d1 d2 d3 d4 d5 dl dz0 dz1 dz2 dz3 dz4 dz5 hx8
  generalize ((((((w8.setCell ⟨w.heap.size + 1, 0, none⟩ (.int .i64 V.year)).setCell ⟨w.heap.size + 1, 1, none⟩ (.slice V.la V.last.length V.lc)).setCell ⟨w.heap.size + 1, 2, none⟩ (.slice V.ga V.given.length V.gc)).setCell ⟨w.heap.size + 1, 3, none⟩ (.slice V.ha V.heaps.length V.hc)).setCell ⟨w.heap.size + 1, 4, none⟩ (.slice V.ua V.used.length V.uc)).setCell ⟨w.heap.size + 1, 5, none⟩ (.slice V.wa V.waste.length V.wc)) = w9 at *
  refine hK.out _ _ (fun _ => hx9) ?_
  clear hK K
  try simp only [Act.put, List.getElem_toArray, List.getElem_cons_zero, List.getElem_cons_succ, List.setIfInBounds_toArray, List.set_cons_zero, List.set_cons_succ]
  refine E_step (i := 9) (o := _) (by kernel_rfl) rfl (fun K hK => ?_)
  go_simp
  refine hK.out _ _ (fun h => absurd rfl h) ?_
  clear hK K
  try simp only [Act.put, List.getElem_toArray, List.getElem_cons_zero, List.getElem_cons_succ, List.setIfInBounds_toArray, List.set_cons_zero, List.set_cons_succ]
  refine E_done (by kernel_rfl) ?_ _
  clear hx9
  have HR := Lib.hid (show SameR (doD F S ⟨kd, pl, ld, nm, ot, dy, pr, rl, rh⟩) (choreD F T ⟨kd, pl, ld, nm, ot, dy, pr, rl, rh⟩) by
    have h := same_do (F := F) HSM.out.symm ⟨kd, pl, ld, nm, ot, dy, pr, rl, rh⟩
    have h2 : doD F T ⟨kd, pl, ld, nm, ot, dy, pr, rl, rh⟩ = choreD F T ⟨kd, pl, ld, nm, ot, dy, pr, rl, rh⟩ := by unfold doD; rw [if_neg (not_not_intro HET.out), if_neg (not_not_intro ⟨HK.out.1, HK.out.2, HBQ.out⟩)]
    rw [h2] at h
    exact h)
  by_cases h0 : xx = 0
  rotate_left
  · have HV := Lib.hid (show (doD F S ⟨kd, pl, ld, nm, ot, dy, pr, rl, rh⟩).1 = xx by rw [HR.out.1, HXX.out])
    have HN := Lib.hid h0
    have hq : (xx != 0) = true := by simp [h0]
    clear h0
    obtain ⟨rr0, rr1, rr2, rr3, rr4, rr5⟩ := zero_cells KR9.out
    have rrl := KR9.out.lt
    have rrz0 := KR9.out.frozen 0
    have rrz1 := KR9.out.frozen 1
    have rrz2 := KR9.out.frozen 2
    have rrz3 := KR9.out.frozen 3
    have rrz4 := KR9.out.frozen 4
    have rrz5 := KR9.out.frozen 5
    go_wp2_with fail
    refine zero_end KR9.out (Φ := bodyPost _ _ _ _ _) (fun wf ht kf => ?_)
    obtain ⟨g0, g1, g2, g3, g4, g5⟩ := zero_cells kf
    have hbf : Below w.heap.size w wf := HB9.out.trans (ht.below HB9.out.size (fun k e => by rw [show k = w.heap.size + 1 + 1 + 1 from e]; omega))
    exact bodyPost_ret (v := .tuple #[.agg #[.int .i64 0, .slice none 0 0, .slice none 0 0, .slice none 0 0, .slice none 0 0, .slice none 0 0], .int .i64 xx]) (by simp [results, Tryz.results9, go_sem, g0, g1, g2, g3, g4, g5]) rfl (RefDoSaid.err HV.out (HN.out) hbf)
  subst h0
  obtain ⟨h1, h2, h3⟩ := HVM.out HXX.out
  have HR9 := Lib.hid (h1.turnAt HT9.out (h3 _ (by have := HS67.out; have := HW6.out; omega) (HT.out.off (.inr (by have := HW6.out; omega)))))
  have HSV := Lib.hid h2
  have HOF := Lib.hid (show Off (w.heap.size + 1 + 1 + 1) V from h3 _ (by have := HS67.out; have := HW6.out; omega) (HT.out.off (.inr (by have := HW6.out; omega))))
  clear h1 h2 h3
  obtain ⟨d0, d1, d2, d3, d4, d5⟩ := sto_cells (S := V) KS9.out
  have dl := KS9.out.lt
  obtain ⟨rr0, rr1, rr2, rr3, rr4, rr5⟩ := zero_cells KR9.out
  have rrl := KR9.out.lt
  have rrz0 := KR9.out.frozen 0
  have rrz1 := KR9.out.frozen 1
  have rrz2 := KR9.out.frozen 2
  have rrz3 := KR9.out.frozen 3
  have rrz4 := KR9.out.frozen 4
  have rrz5 := KR9.out.frozen 5
  go_wp2_with fail
  refine put_end V KR9.out (Φ := bodyPost _ _ _ _ _) (fun wf ht kf => ?_)
  obtain ⟨g0, g1, g2, g3, g4, g5⟩ := sto_cells (S := V) kf
  have hbf : Below w.heap.size w wf := HB9.out.trans (ht.below HB9.out.size (fun k e => by rw [show k = w.heap.size + 1 + 1 + 1 from e]; omega))
  exact bodyPost_ret (v := .tuple #[.agg #[.int .i64 V.year, .slice V.la V.last.length V.lc, .slice V.ga V.given.length V.gc, .slice V.ha V.heaps.length V.hc, .slice V.ua V.used.length V.uc, .slice V.wa V.waste.length V.wc], .int .i64 0]) (by simp [results, Tryz.results9, go_sem, g0, g1, g2, g3, g4, g5]) rfl (⟨⟨V, by rw [HR.out.1, HXX.out], (HR9.out.turnAt ht HOF.out).store, by rw [if_pos (by rw [HR.out.1, HXX.out])]; exact HSV.out.trans HR.out.2.symm⟩, hbf⟩)
end
end Go.Proofs.YtfhalmlpnoepcaaGreat
namespace Go.Proofs.YtfhalmlpnoepcaaGreat
section
set_option linter.unusedSimpArgs false
open Go.RowKit

set_option maxRecDepth 100000 in
set_option maxHeartbeats 16000000 in
theorem doesLaw_any (F : Frm) (S : Sto) (a : Chr) (w : World) (hF : IsFarm w F) (hS : IsStore w S) (hnm : a.name.size ≤ maxLen) (hno : a.other.size ≤ maxLen) :
    Calls Tryz.prog 3 #[.agg #[.slice F.pa F.ps.length F.pc, .int .i64 F.dry], .agg #[.int .i64 S.year, .slice S.la S.last.length S.lc, .slice S.ga S.given.length S.gc, .slice S.ha S.heaps.length S.hc, .slice S.ua S.used.length S.uc, .slice S.wa S.waste.length S.wc], .agg (chrC a)] w fun e w' => e = .returned (.bool true) ∧ Below w.heap.size w w' := by
  obtain ⟨kd, pl, ld, nm, ot, dy, pr, rl, rh⟩ := a
  dsimp only at hnm hno
  show Calls _ _ #[.agg #[.slice F.pa F.ps.length F.pc, .int .i64 F.dry], .agg #[.int .i64 S.year, .slice S.la S.last.length S.lc, .slice S.ga S.given.length S.gc, .slice S.ha S.heaps.length S.hc, .slice S.ua S.used.length S.uc, .slice S.wa S.waste.length S.wc], .agg #[.int .i64 kd, .int .i64 pl, .int .i64 ld, .string nm, .string ot, .int .i64 dy, .int .i64 pr, .int .i64 rl, .int .i64 rh]] _ _
  have k1 := ((Blk.new w 24 #[.slice F.pa F.ps.length F.pc, .int .i64 F.dry]).alloc (.cells #[.int .i64 S.year, .slice S.la S.last.length S.lc, .slice S.ga S.given.length S.gc, .slice S.ha S.heaps.length S.hc, .slice S.ua S.used.length S.uc, .slice S.wa S.waste.length S.wc] 29)).alloc (.cells #[.int .i64 kd, .int .i64 pl, .int .i64 ld, .string nm, .string ot, .int .i64 dy, .int .i64 pr, .int .i64 rl, .int .i64 rh] 34)
  have k2 := (Blk.new (w.alloc (.cells #[.slice F.pa F.ps.length F.pc, .int .i64 F.dry] 24)) 29 #[.int .i64 S.year, .slice S.la S.last.length S.lc, .slice S.ga S.given.length S.gc, .slice S.ha S.heaps.length S.hc, .slice S.ua S.used.length S.uc, .slice S.wa S.waste.length S.wc]).alloc (.cells #[.int .i64 kd, .int .i64 pl, .int .i64 ld, .string nm, .string ot, .int .i64 dy, .int .i64 pr, .int .i64 rl, .int .i64 rh] 34)
  have k3 := Blk.new ((w.alloc (.cells #[.slice F.pa F.ps.length F.pc, .int .i64 F.dry] 24)).alloc (.cells #[.int .i64 S.year, .slice S.la S.last.length S.lc, .slice S.ga S.given.length S.gc, .slice S.ha S.heaps.length S.hc, .slice S.ua S.used.length S.uc, .slice S.wa S.waste.length S.wc] 29)) 34 #[.int .i64 kd, .int .i64 pl, .int .i64 ld, .string nm, .string ot, .int .i64 dy, .int .i64 pr, .int .i64 rl, .int .i64 rh]
  rw [World.size_alloc] at k2
  rw [World.size_alloc, World.size_alloc] at k3
  have hb1 : Below w.heap.size w (((w.alloc (.cells #[.slice F.pa F.ps.length F.pc, .int .i64 F.dry] 24)).alloc (.cells #[.int .i64 S.year, .slice S.la S.last.length S.lc, .slice S.ga S.given.length S.gc, .slice S.ha S.heaps.length S.hc, .slice S.ua S.used.length S.uc, .slice S.wa S.waste.length S.wc] 29)).alloc (.cells #[.int .i64 kd, .int .i64 pl, .int .i64 ld, .string nm, .string ot, .int .i64 dy, .int .i64 pr, .int .i64 rl, .int .i64 rh] 34)) := (((Below.refl _ w).alloc (Nat.le_refl _) _).alloc (by simp) _).alloc (by simp; omega) _
  have HF := Lib.hid hF
  have HS := Lib.hid hS
  have HNM := Lib.hid hnm
  have HNO := Lib.hid hno
  clear hF hS hnm hno
  go_enter Tryz.func3, Tryz.ntmps3
  go_upto_region 1 with fail
  generalize (((w.alloc (.cells #[.slice F.pa F.ps.length F.pc, .int .i64 F.dry] 24)).alloc (.cells #[.int .i64 S.year, .slice S.la S.last.length S.lc, .slice S.ga S.given.length S.gc, .slice S.ha S.heaps.length S.hc, .slice S.ua S.used.length S.uc, .slice S.wa S.waste.length S.wc] 29)).alloc (.cells #[.int .i64 kd, .int .i64 pl, .int .i64 ld, .string nm, .string ot, .int .i64 dy, .int .i64 pr, .int .i64 rl, .int .i64 rh] 34)) = w1 at *
  have HB1 := Lib.hid hb1
  have KF1 := Lib.hid k1
  have KS1 := Lib.hid k2
  have KA1 := Lib.hid k3
  clear k1 k2 k3 hb1
  obtain ⟨f0, f1⟩ := frm_cells KF1.out
  have fl := KF1.out.lt
  obtain ⟨d0, d1, d2, d3, d4, d5⟩ := sto_cells (S := S) KS1.out
  have dl := KS1.out.lt
  obtain ⟨c0, c1, c2, c3, c4, c5, c6, c7, c8⟩ := chr_cells KA1.out
  have cl := KA1.out.lt
  go_wp2_with fail
  refine (great_any F _ (HF.out.below HB1.out)).mono ?_
  rintro e w2 ⟨⟨gb, rfl⟩, hb⟩
  clear f0 f1 fl d0 d1 d2 d3 d4 d5 dl c0 c1 c2 c3 c4 c5 c6 c7 c8 cl
  have KF2 := Lib.hid (KF1.out.belowS hb)
  have KS2 := Lib.hid (KS1.out.belowS hb)
  have KA2 := Lib.hid (KA1.out.belowS hb)
  have HB2 := Lib.hid (HB1.out.trans (hb.mono HB1.out.size))
  clear hb KF1 KS1 KA1
  cases gb with
  | true =>
    go_wp2_with fail
    refine (lives_any _).mono ?_
    rintro e wl ⟨rfl, hbl⟩
    go_wp2_with fail
    go_ret
    exact ⟨rfl, HB2.out.trans (hbl.mono HB2.out.size)⟩
  | false =>
  obtain ⟨f0, f1⟩ := frm_cells KF2.out
  have fl := KF2.out.lt
  obtain ⟨d0, d1, d2, d3, d4, d5⟩ := sto_cells (S := S) KS2.out
  have dl := KS2.out.lt
  obtain ⟨c0, c1, c2, c3, c4, c5, c6, c7, c8⟩ := chr_cells KA2.out
  have cl := KA2.out.lt
  go_wp2_with fail
  refine (show Calls Tryz.prog 6 #[.agg #[.int .i64 S.year, .slice S.la S.last.length S.lc, .slice S.ga S.given.length S.gc, .slice S.ha S.heaps.length S.hc, .slice S.ua S.used.length S.uc, .slice S.wa S.waste.length S.wc]] w2 _ from wide_any S _ (HS.out.below HB2.out)).mono ?_
  rintro e w3 ⟨⟨wb, rfl, hfit⟩, hb⟩
  clear f0 f1 fl d0 d1 d2 d3 d4 d5 dl c0 c1 c2 c3 c4 c5 c6 c7 c8 cl
  have KF3 := Lib.hid (KF2.out.belowS hb)
  have KS3 := Lib.hid (KS2.out.belowS hb)
  have KA3 := Lib.hid (KA2.out.belowS hb)
  have HB3 := Lib.hid (HB2.out.trans (hb.mono HB2.out.size))
  clear hb KF2 KS2 KA2
  cases wb with
  | true =>
    go_wp2_with fail
    refine (lives_any _).mono ?_
    rintro e wl ⟨rfl, hbl⟩
    go_wp2_with fail
    go_ret
    exact ⟨rfl, HB3.out.trans (hbl.mono HB3.out.size)⟩
  | false =>
  have HFIT := Lib.hid (hfit rfl)
  clear hfit
  obtain ⟨f0, f1⟩ := frm_cells KF3.out
  have fl := KF3.out.lt
  obtain ⟨d0, d1, d2, d3, d4, d5⟩ := sto_cells (S := S) KS3.out
  have dl := KS3.out.lt
  obtain ⟨c0, c1, c2, c3, c4, c5, c6, c7, c8⟩ := chr_cells KA3.out
  have cl := KA3.out.lt
  obtain ⟨v, hv⟩ : ∃ v, IntKind.i64.wrap ((nm.size : Int) + (ot.size : Int)) = v := ⟨_, rfl⟩
  by_cases h3 : 300 < v
  · have q3 : decide (300 < v) = true := decide_eq_true h3
    go_wp2_with fail
    refine (lives_any _).mono ?_
    rintro e wl ⟨rfl, hbl⟩
    go_wp2_with fail
    go_ret
    exact ⟨rfl, HB3.out.trans (hbl.mono HB3.out.size)⟩
  have q3 : decide (300 < v) = false := decide_eq_false h3
  go_upto_region 3 with fail
  clear h3 q3 hv
  go_wp2_with fail
  refine (show Calls Tryz.prog 8 #[.agg #[.slice F.pa F.ps.length F.pc, .int .i64 F.dry], .agg #[.int .i64 S.year, .slice S.la S.last.length S.lc, .slice S.ga S.given.length S.gc, .slice S.ha S.heaps.length S.hc, .slice S.ua S.used.length S.uc, .slice S.wa S.waste.length S.wc], .agg #[.int .i64 kd, .int .i64 pl, .int .i64 ld, .string nm, .string ot, .int .i64 dy, .int .i64 pr, .int .i64 rl, .int .i64 rh]] w3 _ from strawDo_any F S ⟨kd, pl, ld, nm, ot, dy, pr, rl, rh⟩ w3 (HF.out.below HB3.out) (HS.out.below HB3.out) HFIT.out HNM.out HNO.out).mono ?_
  rintro e w4 ⟨⟨T, rfl, hT, hst⟩, hb⟩
  clear f0 f1 fl d0 d1 d2 d3 d4 d5 dl c0 c1 c2 c3 c4 c5 c6 c7 c8 cl
  have KF4 := Lib.hid (KF3.out.belowS hb)
  have KS4 := Lib.hid (KS3.out.belowS hb)
  have KA4 := Lib.hid (KA3.out.belowS hb)
  have HB4 := Lib.hid (HB3.out.trans (hb.mono HB3.out.size))
  obtain ⟨x, hx⟩ : ∃ x, (doD F S ⟨kd, pl, ld, nm, ot, dy, pr, rl, rh⟩).1 = x := ⟨_, rfl⟩
  have HX := Lib.hid hx
  rw [hx] at hst ⊢
  have HT4 := Lib.hid hT.store
  have HST := Lib.hid hst
  clear hb hT hst hx KF3 KS3 KA3
  unfold stoV
  have kA := Blk.new w4 29 #[.int .i64 T.year, .slice T.la T.last.length T.lc, .slice T.ga T.given.length T.gc, .slice T.ha T.heaps.length T.hc, .slice T.ua T.used.length T.uc, .slice T.wa T.waste.length T.wc]
  have hb5 : Below w4.heap.size w4 (w4.alloc (.cells #[.int .i64 T.year, .slice T.la T.last.length T.lc, .slice T.ga T.given.length T.gc, .slice T.ha T.heaps.length T.hc, .slice T.ua T.used.length T.uc, .slice T.wa T.waste.length T.wc] 29)) := (Below.refl _ w4).alloc (Nat.le_refl _) _
  go_upto_region 4 with fail
  have KF5 := Lib.hid (KF4.out.belowS hb5)
  have KS5 := Lib.hid (KS4.out.belowS hb5)
  have KA5 := Lib.hid (KA4.out.belowS hb5)
  have HB5 := Lib.hid (HB4.out.trans (hb5.mono HB4.out.size))
  generalize w4.alloc (.cells #[.int .i64 T.year, .slice T.la T.last.length T.lc, .slice T.ga T.given.length T.gc, .slice T.ha T.heaps.length T.hc, .slice T.ua T.used.length T.uc, .slice T.wa T.waste.length T.wc] 29) = w5 at *
  have HT5 := Lib.hid (HT4.out.below hb5)
  have KT5 := Lib.hid kA
  obtain ⟨bt, hbt⟩ : ∃ bt, bt = w4.heap.size := ⟨_, rfl⟩
  rw [← hbt] at KT5 ⊢
  clear hb5 kA hbt KF4 KS4 KA4 HT4
  obtain ⟨f0, f1⟩ := frm_cells KF5.out
  have fl := KF5.out.lt
  obtain ⟨d0, d1, d2, d3, d4, d5⟩ := sto_cells (S := S) KS5.out
  have dl := KS5.out.lt
  obtain ⟨c0, c1, c2, c3, c4, c5, c6, c7, c8⟩ := chr_cells KA5.out
  have cl := KA5.out.lt
  go_wp2_with fail
  refine (show Calls Tryz.prog 9 #[.agg #[.slice F.pa F.ps.length F.pc, .int .i64 F.dry], .agg #[.int .i64 S.year, .slice S.la S.last.length S.lc, .slice S.ga S.given.length S.gc, .slice S.ha S.heaps.length S.hc, .slice S.ua S.used.length S.uc, .slice S.wa S.waste.length S.wc], .agg #[.int .i64 kd, .int .i64 pl, .int .i64 ld, .string nm, .string ot, .int .i64 dy, .int .i64 pr, .int .i64 rl, .int .i64 rh]] w5 _ from refDo_any F S ⟨kd, pl, ld, nm, ot, dy, pr, rl, rh⟩ w5 (HF.out.below HB5.out) (HS.out.below HB5.out) HFIT.out HNM.out HNO.out).mono ?_
  rintro e w6 ⟨⟨U, rfl, hU, hsu⟩, hb⟩
  clear f0 f1 fl d0 d1 d2 d3 d4 d5 dl c0 c1 c2 c3 c4 c5 c6 c7 c8 cl
  have KT6 := Lib.hid (KT5.out.belowS hb)
  have HB6 := Lib.hid (HB5.out.trans (hb.mono HB5.out.size))
  rw [HX.out] at hsu ⊢
  have HU6 := Lib.hid hU
  have HSU := Lib.hid hsu
  have HT6 := Lib.hid (HT5.out.below hb)
  clear hb hU hsu KF5 KS5 KA5 KT5 HT5
  unfold stoV
  have kA := Blk.new w6 29 #[.int .i64 U.year, .slice U.la U.last.length U.lc, .slice U.ga U.given.length U.gc, .slice U.ha U.heaps.length U.hc, .slice U.ua U.used.length U.uc, .slice U.wa U.waste.length U.wc]
  have hb7 : Below w6.heap.size w6 (w6.alloc (.cells #[.int .i64 U.year, .slice U.la U.last.length U.lc, .slice U.ga U.given.length U.gc, .slice U.ha U.heaps.length U.hc, .slice U.ua U.used.length U.uc, .slice U.wa U.waste.length U.wc] 29)) := (Below.refl _ w6).alloc (Nat.le_refl _) _
  go_upto_region 5 with fail
  have KT7 := Lib.hid (KT6.out.belowS hb7)
  have HB7 := Lib.hid (HB6.out.trans (hb7.mono HB6.out.size))
  generalize w6.alloc (.cells #[.int .i64 U.year, .slice U.la U.last.length U.lc, .slice U.ga U.given.length U.gc, .slice U.ha U.heaps.length U.hc, .slice U.ua U.used.length U.uc, .slice U.wa U.waste.length U.wc] 29) = w7 at *
  have HT7 := Lib.hid (HT6.out.below hb7)
  have HU7 := Lib.hid (HU6.out.below hb7)
  have KU7 := Lib.hid kA
  obtain ⟨bu, hbu⟩ : ∃ bu, bu = w6.heap.size := ⟨_, rfl⟩
  rw [← hbu] at KU7 ⊢
  clear hb7 kA hbu KT6 HT6 HU6
  obtain ⟨d0, d1, d2, d3, d4, d5⟩ := sto_cells (S := T) KT7.out
  have dl := KT7.out.lt
  obtain ⟨c0, c1, c2, c3, c4, c5⟩ := sto_cells (S := U) KU7.out
  have cl := KU7.out.lt
  go_wp2_with fail
  refine (show Calls Tryz.prog 10 #[.agg #[.int .i64 T.year, .slice T.la T.last.length T.lc, .slice T.ga T.given.length T.gc, .slice T.ha T.heaps.length T.hc, .slice T.ua T.used.length T.uc, .slice T.wa T.waste.length T.wc], .agg #[.int .i64 U.year, .slice U.la U.last.length U.lc, .slice U.ga U.given.length U.gc, .slice U.ha U.heaps.length U.hc, .slice U.ua U.used.length U.uc, .slice U.wa U.waste.length U.wc]] w7 _ from sameStore_any T U w7 HT7.out HU7.out (HST.out.trans HSU.out.symm)).mono ?_
  rintro e w8 ⟨rfl, hb⟩
  have HB8 := Lib.hid (HB7.out.trans (hb.mono HB7.out.size))
  clear d0 d1 d2 d3 d4 d5 dl c0 c1 c2 c3 c4 c5 cl hb
  go_wp2_with fail
  refine (lives_any _).mono ?_
  rintro e wl ⟨rfl, hbl⟩
  go_wp2_with fail
  go_ret
  exact ⟨rfl, HB8.out.trans (hbl.mono HB8.out.size)⟩
end
end Go.Proofs.YtfhalmlpnoepcaaGreat
