/- thatchref07.Season: the skin behind a season, or the first error. No condition. -/
import Derived.Test.YtoigihmgjacbjaaDoorUK
import Derived.Test.YtoigihmgjacbjaaDoorUP
import Derived.Test.YtoigihmgjacbjaaDoorVH
import Derived.Test.YtoigihmgjacbjaaDoorVI
set_option linter.unusedSimpArgs false
namespace Go.Proofs.YtoigihmgjacbjaaDoor
open Go.RowKit

theorem areaE_few {l : List Pnt} {hs : List Hol} (h : areaE l hs = 0) : hs.length ≤ 6 := by
  unfold areaE at h
  split at h
  · omega
  split at h
  · rename_i h2
    exact absurd h h2
  split at h
  · omega
  · omega

set_option maxRecDepth 100000 in
set_option maxHeartbeats 16000000 in
theorem refSeason_any (S : Skn) (t : Spn) (g : Int) (w : World) (hS : IsSkn w S) :
    Calls Tryd.prog 16 #[.agg #[.slice S.pa S.pts.length S.pc, .slice S.ha S.hs.length S.hc, .int .i64 S.steep, .int .i64 S.th.lo, .int .i64 S.th.hi, .slice S.ma S.ms.length S.mc], .agg #[.int .i64 t.lo, .int .i64 t.hi], .int .i64 g] w (SkinSaid (seasonE S t g) (Behind t g S) w) := by
  have k1 := ((Blk.new w 30 #[.slice S.pa S.pts.length S.pc, .slice S.ha S.hs.length S.hc, .int .i64 S.steep, .int .i64 S.th.lo, .int .i64 S.th.hi, .slice S.ma S.ms.length S.mc]).alloc (.cells #[.int .i64 t.lo, .int .i64 t.hi] 27)).alloc (.cells #[.slice none 0 0, .slice none 0 0, .int .i64 0, .int .i64 0, .int .i64 0, .slice none 0 0] 30)
  have k2 := (Blk.new (w.alloc (.cells #[.slice S.pa S.pts.length S.pc, .slice S.ha S.hs.length S.hc, .int .i64 S.steep, .int .i64 S.th.lo, .int .i64 S.th.hi, .slice S.ma S.ms.length S.mc] 30)) 27 #[.int .i64 t.lo, .int .i64 t.hi]).alloc (.cells #[.slice none 0 0, .slice none 0 0, .int .i64 0, .int .i64 0, .int .i64 0, .slice none 0 0] 30)
  have k3 := Blk.new ((w.alloc (.cells #[.slice S.pa S.pts.length S.pc, .slice S.ha S.hs.length S.hc, .int .i64 S.steep, .int .i64 S.th.lo, .int .i64 S.th.hi, .slice S.ma S.ms.length S.mc] 30)).alloc (.cells #[.int .i64 t.lo, .int .i64 t.hi] 27)) 30 #[.slice none 0 0, .slice none 0 0, .int .i64 0, .int .i64 0, .int .i64 0, .slice none 0 0]
  rw [World.size_alloc] at k2
  rw [World.size_alloc, World.size_alloc] at k3
  have hb1 : Below w.heap.size w (((w.alloc (.cells #[.slice S.pa S.pts.length S.pc, .slice S.ha S.hs.length S.hc, .int .i64 S.steep, .int .i64 S.th.lo, .int .i64 S.th.hi, .slice S.ma S.ms.length S.mc] 30)).alloc (.cells #[.int .i64 t.lo, .int .i64 t.hi] 27)).alloc (.cells #[.slice none 0 0, .slice none 0 0, .int .i64 0, .int .i64 0, .int .i64 0, .slice none 0 0] 30)) := (((Below.refl _ w).alloc (Nat.le_refl _) _).alloc (by simp) _).alloc (by simp; omega) _
  have HS := Lib.hid hS
  clear hS
  go_enter Tryd.func16, Tryd.ntmps16
  go_upto_region 1 with fail
  generalize (((w.alloc (.cells #[.slice S.pa S.pts.length S.pc, .slice S.ha S.hs.length S.hc, .int .i64 S.steep, .int .i64 S.th.lo, .int .i64 S.th.hi, .slice S.ma S.ms.length S.mc] 30)).alloc (.cells #[.int .i64 t.lo, .int .i64 t.hi] 27)).alloc (.cells #[.slice none 0 0, .slice none 0 0, .int .i64 0, .int .i64 0, .int .i64 0, .slice none 0 0] 30)) = w1 at *
  have K11 := Lib.hid k1
  have K21 := Lib.hid k2
  have K31 := Lib.hid k3
  have HB1 := Lib.hid hb1
  clear k1 k2 k3 hb1
  obtain ⟨s0, s1, s2, s3, s4, s5⟩ := (show w1.cell? ⟨w.heap.size, 0, none⟩ = some (.slice S.pa S.pts.length S.pc) ∧ w1.cell? ⟨w.heap.size, 1, none⟩ = some (.slice S.ha S.hs.length S.hc) ∧ w1.cell? ⟨w.heap.size, 2, none⟩ = some (.int .i64 S.steep) ∧ w1.cell? ⟨w.heap.size, 3, none⟩ = some (.int .i64 S.th.lo) ∧ w1.cell? ⟨w.heap.size, 4, none⟩ = some (.int .i64 S.th.hi) ∧ w1.cell? ⟨w.heap.size, 5, none⟩ = some (.slice S.ma S.ms.length S.mc) from ⟨K11.out.cell 0, K11.out.cell 1, K11.out.cell 2, K11.out.cell 3, K11.out.cell 4, K11.out.cell 5⟩)
  have l1 := K11.out.lt
  obtain ⟨t0, t1⟩ := spn_cells (s := t) K21.out
  have l2 := K21.out.lt
  go_wp2_with fail
  refine (refCheck_any S _ (HS.out.below HB1.out)).mono ?_
  rintro e w2 ⟨rfl, hb⟩
  clear s0 s1 s2 s3 s4 s5 l1 t0 t1 l2
  have K12 := Lib.hid (K11.out.belowS hb)
  have K22 := Lib.hid (K21.out.belowS hb)
  have K32 := Lib.hid (K31.out.belowS hb)
  have HB2 := Lib.hid (HB1.out.trans (hb.mono HB1.out.size))
  clear hb K11 K21 K31
  obtain ⟨E, hE⟩ : ∃ E, skinE S = E := ⟨_, rfl⟩
  rw [hE]
  obtain ⟨s0, s1, s2, s3, s4, s5⟩ := (show w2.cell? ⟨w.heap.size, 0, none⟩ = some (.slice S.pa S.pts.length S.pc) ∧ w2.cell? ⟨w.heap.size, 1, none⟩ = some (.slice S.ha S.hs.length S.hc) ∧ w2.cell? ⟨w.heap.size, 2, none⟩ = some (.int .i64 S.steep) ∧ w2.cell? ⟨w.heap.size, 3, none⟩ = some (.int .i64 S.th.lo) ∧ w2.cell? ⟨w.heap.size, 4, none⟩ = some (.int .i64 S.th.hi) ∧ w2.cell? ⟨w.heap.size, 5, none⟩ = some (.slice S.ma S.ms.length S.mc) from ⟨K12.out.cell 0, K12.out.cell 1, K12.out.cell 2, K12.out.cell 3, K12.out.cell 4, K12.out.cell 5⟩)
  have l1 := K12.out.lt
  obtain ⟨t0, t1⟩ := spn_cells (s := t) K22.out
  have l2 := K22.out.lt
  by_cases hz : E = 0
  rotate_left
  · have HV := Lib.hid (show seasonE S t g = E by unfold seasonE; rw [hE, if_pos hz])
    have HN := Lib.hid (show E ≠ 0 from hz)
    have hzb : (E == 0) = false := by rw [beq_eq_false_iff_ne]; exact hz
    have hzn : (E != 0) = true := by simp [hz]
    clear hE
    obtain ⟨r0, r1, r2, r3, r4, r5⟩ := (show w2.cell? ⟨w.heap.size + 1 + 1, 0, none⟩ = some (.slice none 0 0) ∧ w2.cell? ⟨w.heap.size + 1 + 1, 1, none⟩ = some (.slice none 0 0) ∧ w2.cell? ⟨w.heap.size + 1 + 1, 2, none⟩ = some (.int .i64 0) ∧ w2.cell? ⟨w.heap.size + 1 + 1, 3, none⟩ = some (.int .i64 0) ∧ w2.cell? ⟨w.heap.size + 1 + 1, 4, none⟩ = some (.int .i64 0) ∧ w2.cell? ⟨w.heap.size + 1 + 1, 5, none⟩ = some (.slice none 0 0) from ⟨K32.out.cell 0, K32.out.cell 1, K32.out.cell 2, K32.out.cell 3, K32.out.cell 4, K32.out.cell 5⟩)
    have l3 := K32.out.lt
    have z0 := K32.out.frozen 0
    have z1 := K32.out.frozen 1
    have z2 := K32.out.frozen 2
    have z3 := K32.out.frozen 3
    have z4 := K32.out.frozen 4
    have z5 := K32.out.frozen 5
    go_wp2_with fail
    have kf : Blk ((((((w2.setCell ⟨w.heap.size + 1 + 1, 0, none⟩ (.slice none 0 0)).setCell ⟨w.heap.size + 1 + 1, 1, none⟩ (.slice none 0 0)).setCell ⟨w.heap.size + 1 + 1, 2, none⟩ (.int .i64 0)).setCell ⟨w.heap.size + 1 + 1, 3, none⟩ (.int .i64 0)).setCell ⟨w.heap.size + 1 + 1, 4, none⟩ (.int .i64 0)).setCell ⟨w.heap.size + 1 + 1, 5, none⟩ (.slice none 0 0)) (w.heap.size + 1 + 1) #[.slice none 0 0, .slice none 0 0, .int .i64 0, .int .i64 0, .int .i64 0, .slice none 0 0] 30 := ((((((K32.out.set 0 (.slice none 0 0)).set 1 (.slice none 0 0)).set 2 (.int .i64 0)).set 3 (.int .i64 0)).set 4 (.int .i64 0)).set 5 (.slice none 0 0))
    have ht : Turn (fun k => k = w.heap.size + 1 + 1) w2 ((((((w2.setCell ⟨w.heap.size + 1 + 1, 0, none⟩ (.slice none 0 0)).setCell ⟨w.heap.size + 1 + 1, 1, none⟩ (.slice none 0 0)).setCell ⟨w.heap.size + 1 + 1, 2, none⟩ (.int .i64 0)).setCell ⟨w.heap.size + 1 + 1, 3, none⟩ (.int .i64 0)).setCell ⟨w.heap.size + 1 + 1, 4, none⟩ (.int .i64 0)).setCell ⟨w.heap.size + 1 + 1, 5, none⟩ (.slice none 0 0)) := (((((((Turn.of_below (X := fun k => k = w.heap.size + 1 + 1) (Below.refl _ w2)).setCell (B := w.heap.size + 1 + 1) rfl 0 (.slice none 0 0)).setCell (B := w.heap.size + 1 + 1) rfl 1 (.slice none 0 0)).setCell (B := w.heap.size + 1 + 1) rfl 2 (.int .i64 0)).setCell (B := w.heap.size + 1 + 1) rfl 3 (.int .i64 0)).setCell (B := w.heap.size + 1 + 1) rfl 4 (.int .i64 0)).setCell (B := w.heap.size + 1 + 1) rfl 5 (.slice none 0 0))
    generalize ((((((w2.setCell ⟨w.heap.size + 1 + 1, 0, none⟩ (.slice none 0 0)).setCell ⟨w.heap.size + 1 + 1, 1, none⟩ (.slice none 0 0)).setCell ⟨w.heap.size + 1 + 1, 2, none⟩ (.int .i64 0)).setCell ⟨w.heap.size + 1 + 1, 3, none⟩ (.int .i64 0)).setCell ⟨w.heap.size + 1 + 1, 4, none⟩ (.int .i64 0)).setCell ⟨w.heap.size + 1 + 1, 5, none⟩ (.slice none 0 0)) = wf at *
    obtain ⟨g0, g1, g2, g3, g4, g5⟩ := (show wf.cell? ⟨w.heap.size + 1 + 1, 0, none⟩ = some (.slice none 0 0) ∧ wf.cell? ⟨w.heap.size + 1 + 1, 1, none⟩ = some (.slice none 0 0) ∧ wf.cell? ⟨w.heap.size + 1 + 1, 2, none⟩ = some (.int .i64 0) ∧ wf.cell? ⟨w.heap.size + 1 + 1, 3, none⟩ = some (.int .i64 0) ∧ wf.cell? ⟨w.heap.size + 1 + 1, 4, none⟩ = some (.int .i64 0) ∧ wf.cell? ⟨w.heap.size + 1 + 1, 5, none⟩ = some (.slice none 0 0) from ⟨kf.cell 0, kf.cell 1, kf.cell 2, kf.cell 3, kf.cell 4, kf.cell 5⟩)
    refine bodyPost_ret (v := .tuple #[.agg #[.slice none 0 0, .slice none 0 0, .int .i64 0, .int .i64 0, .int .i64 0, .slice none 0 0], .int .i64 E]) (by simp [results, Tryd.results16, go_sem, g0, g1, g2, g3, g4, g5]) rfl ?_
    rw [HV.out]
    exact ⟨⟨zeroSkn, rfl, zero_is _, zero_fresh _, fun h0 => absurd h0 HN.out, fun _ => rfl⟩, HB2.out.trans (ht.below HB2.out.size (fun k e => by rw [show k = w.heap.size + 1 + 1 from e]; omega))⟩
  subst hz
  have HX := Lib.hid hE
  have HST := Lib.hid (skinE_ok hE).steep
  have HVV := Lib.hid (show seasonE S t g = if (isSpanB t 0 2000 && isFromB g 0 1000) = false then 1 else if 1000 < S.steep + g then 3 else 0 by unfold seasonE; rw [if_neg (by rw [hE]; decide)])
  clear hE
  go_wp2_with fail
  refine (refSpan_any t 2000 _).mono ?_
  rintro e w3 ⟨rfl, hb⟩
  clear s0 s1 s2 s3 s4 s5 l1 t0 t1 l2
  have K13 := Lib.hid (K12.out.belowS hb)
  have K23 := Lib.hid (K22.out.belowS hb)
  have K33 := Lib.hid (K32.out.belowS hb)
  have HB3 := Lib.hid (HB2.out.trans (hb.mono HB2.out.size))
  clear hb K12 K22 K32
  obtain ⟨t1, ht1⟩ : ∃ t1, isSpanB t 0 2000 = t1 := ⟨_, rfl⟩
  have HT1 := Lib.hid ht1
  rw [ht1]
  clear ht1
  obtain ⟨s0, s1, s2, s3, s4, s5⟩ := (show w3.cell? ⟨w.heap.size, 0, none⟩ = some (.slice S.pa S.pts.length S.pc) ∧ w3.cell? ⟨w.heap.size, 1, none⟩ = some (.slice S.ha S.hs.length S.hc) ∧ w3.cell? ⟨w.heap.size, 2, none⟩ = some (.int .i64 S.steep) ∧ w3.cell? ⟨w.heap.size, 3, none⟩ = some (.int .i64 S.th.lo) ∧ w3.cell? ⟨w.heap.size, 4, none⟩ = some (.int .i64 S.th.hi) ∧ w3.cell? ⟨w.heap.size, 5, none⟩ = some (.slice S.ma S.ms.length S.mc) from ⟨K13.out.cell 0, K13.out.cell 1, K13.out.cell 2, K13.out.cell 3, K13.out.cell 4, K13.out.cell 5⟩)
  have l1 := K13.out.lt
  obtain ⟨t0, tt1⟩ := spn_cells (s := t) K23.out
  have l2 := K23.out.lt
  cases t1 with
  | false =>
    have HV := Lib.hid (show seasonE S t g = 1 by rw [HVV.out, if_pos (by rw [HT1.out]; rfl)])
    have HN := Lib.hid (show (1 : Int) ≠ 0 by decide)
    obtain ⟨r0, r1, r2, r3, r4, r5⟩ := (show w3.cell? ⟨w.heap.size + 1 + 1, 0, none⟩ = some (.slice none 0 0) ∧ w3.cell? ⟨w.heap.size + 1 + 1, 1, none⟩ = some (.slice none 0 0) ∧ w3.cell? ⟨w.heap.size + 1 + 1, 2, none⟩ = some (.int .i64 0) ∧ w3.cell? ⟨w.heap.size + 1 + 1, 3, none⟩ = some (.int .i64 0) ∧ w3.cell? ⟨w.heap.size + 1 + 1, 4, none⟩ = some (.int .i64 0) ∧ w3.cell? ⟨w.heap.size + 1 + 1, 5, none⟩ = some (.slice none 0 0) from ⟨K33.out.cell 0, K33.out.cell 1, K33.out.cell 2, K33.out.cell 3, K33.out.cell 4, K33.out.cell 5⟩)
    have l3 := K33.out.lt
    have z0 := K33.out.frozen 0
    have z1 := K33.out.frozen 1
    have z2 := K33.out.frozen 2
    have z3 := K33.out.frozen 3
    have z4 := K33.out.frozen 4
    have z5 := K33.out.frozen 5
    go_wp2_with fail
    have kf : Blk ((((((w3.setCell ⟨w.heap.size + 1 + 1, 0, none⟩ (.slice none 0 0)).setCell ⟨w.heap.size + 1 + 1, 1, none⟩ (.slice none 0 0)).setCell ⟨w.heap.size + 1 + 1, 2, none⟩ (.int .i64 0)).setCell ⟨w.heap.size + 1 + 1, 3, none⟩ (.int .i64 0)).setCell ⟨w.heap.size + 1 + 1, 4, none⟩ (.int .i64 0)).setCell ⟨w.heap.size + 1 + 1, 5, none⟩ (.slice none 0 0)) (w.heap.size + 1 + 1) #[.slice none 0 0, .slice none 0 0, .int .i64 0, .int .i64 0, .int .i64 0, .slice none 0 0] 30 := ((((((K33.out.set 0 (.slice none 0 0)).set 1 (.slice none 0 0)).set 2 (.int .i64 0)).set 3 (.int .i64 0)).set 4 (.int .i64 0)).set 5 (.slice none 0 0))
    have ht : Turn (fun k => k = w.heap.size + 1 + 1) w3 ((((((w3.setCell ⟨w.heap.size + 1 + 1, 0, none⟩ (.slice none 0 0)).setCell ⟨w.heap.size + 1 + 1, 1, none⟩ (.slice none 0 0)).setCell ⟨w.heap.size + 1 + 1, 2, none⟩ (.int .i64 0)).setCell ⟨w.heap.size + 1 + 1, 3, none⟩ (.int .i64 0)).setCell ⟨w.heap.size + 1 + 1, 4, none⟩ (.int .i64 0)).setCell ⟨w.heap.size + 1 + 1, 5, none⟩ (.slice none 0 0)) := (((((((Turn.of_below (X := fun k => k = w.heap.size + 1 + 1) (Below.refl _ w3)).setCell (B := w.heap.size + 1 + 1) rfl 0 (.slice none 0 0)).setCell (B := w.heap.size + 1 + 1) rfl 1 (.slice none 0 0)).setCell (B := w.heap.size + 1 + 1) rfl 2 (.int .i64 0)).setCell (B := w.heap.size + 1 + 1) rfl 3 (.int .i64 0)).setCell (B := w.heap.size + 1 + 1) rfl 4 (.int .i64 0)).setCell (B := w.heap.size + 1 + 1) rfl 5 (.slice none 0 0))
    generalize ((((((w3.setCell ⟨w.heap.size + 1 + 1, 0, none⟩ (.slice none 0 0)).setCell ⟨w.heap.size + 1 + 1, 1, none⟩ (.slice none 0 0)).setCell ⟨w.heap.size + 1 + 1, 2, none⟩ (.int .i64 0)).setCell ⟨w.heap.size + 1 + 1, 3, none⟩ (.int .i64 0)).setCell ⟨w.heap.size + 1 + 1, 4, none⟩ (.int .i64 0)).setCell ⟨w.heap.size + 1 + 1, 5, none⟩ (.slice none 0 0)) = wf at *
    obtain ⟨g0, g1, g2, g3, g4, g5⟩ := (show wf.cell? ⟨w.heap.size + 1 + 1, 0, none⟩ = some (.slice none 0 0) ∧ wf.cell? ⟨w.heap.size + 1 + 1, 1, none⟩ = some (.slice none 0 0) ∧ wf.cell? ⟨w.heap.size + 1 + 1, 2, none⟩ = some (.int .i64 0) ∧ wf.cell? ⟨w.heap.size + 1 + 1, 3, none⟩ = some (.int .i64 0) ∧ wf.cell? ⟨w.heap.size + 1 + 1, 4, none⟩ = some (.int .i64 0) ∧ wf.cell? ⟨w.heap.size + 1 + 1, 5, none⟩ = some (.slice none 0 0) from ⟨kf.cell 0, kf.cell 1, kf.cell 2, kf.cell 3, kf.cell 4, kf.cell 5⟩)
    refine bodyPost_ret (v := .tuple #[.agg #[.slice none 0 0, .slice none 0 0, .int .i64 0, .int .i64 0, .int .i64 0, .slice none 0 0], .int .i64 1]) (by simp [results, Tryd.results16, go_sem, g0, g1, g2, g3, g4, g5]) rfl ?_
    rw [HV.out]
    exact ⟨⟨zeroSkn, rfl, zero_is _, zero_fresh _, fun h0 => absurd h0 HN.out, fun _ => rfl⟩, HB3.out.trans (ht.below HB3.out.size (fun k e => by rw [show k = w.heap.size + 1 + 1 from e]; omega))⟩
  | true =>
  go_wp2_with fail
  refine (refIn_any _ _ _ _).mono ?_
  rintro e w4 ⟨rfl, rfl⟩
  obtain ⟨t2, ht2⟩ : ∃ t2, isFromB g 0 1000 = t2 := ⟨_, rfl⟩
  have HT2 := Lib.hid ht2
  rw [ht2]
  clear ht2
  cases t2 with
  | false =>
    have HV := Lib.hid (show seasonE S t g = 1 by rw [HVV.out, if_pos (by rw [HT1.out, HT2.out]; rfl)])
    have HN := Lib.hid (show (1 : Int) ≠ 0 by decide)
    obtain ⟨r0, r1, r2, r3, r4, r5⟩ := (show w3.cell? ⟨w.heap.size + 1 + 1, 0, none⟩ = some (.slice none 0 0) ∧ w3.cell? ⟨w.heap.size + 1 + 1, 1, none⟩ = some (.slice none 0 0) ∧ w3.cell? ⟨w.heap.size + 1 + 1, 2, none⟩ = some (.int .i64 0) ∧ w3.cell? ⟨w.heap.size + 1 + 1, 3, none⟩ = some (.int .i64 0) ∧ w3.cell? ⟨w.heap.size + 1 + 1, 4, none⟩ = some (.int .i64 0) ∧ w3.cell? ⟨w.heap.size + 1 + 1, 5, none⟩ = some (.slice none 0 0) from ⟨K33.out.cell 0, K33.out.cell 1, K33.out.cell 2, K33.out.cell 3, K33.out.cell 4, K33.out.cell 5⟩)
    have l3 := K33.out.lt
    have z0 := K33.out.frozen 0
    have z1 := K33.out.frozen 1
    have z2 := K33.out.frozen 2
    have z3 := K33.out.frozen 3
    have z4 := K33.out.frozen 4
    have z5 := K33.out.frozen 5
    go_wp2_with fail
    have kf : Blk ((((((w3.setCell ⟨w.heap.size + 1 + 1, 0, none⟩ (.slice none 0 0)).setCell ⟨w.heap.size + 1 + 1, 1, none⟩ (.slice none 0 0)).setCell ⟨w.heap.size + 1 + 1, 2, none⟩ (.int .i64 0)).setCell ⟨w.heap.size + 1 + 1, 3, none⟩ (.int .i64 0)).setCell ⟨w.heap.size + 1 + 1, 4, none⟩ (.int .i64 0)).setCell ⟨w.heap.size + 1 + 1, 5, none⟩ (.slice none 0 0)) (w.heap.size + 1 + 1) #[.slice none 0 0, .slice none 0 0, .int .i64 0, .int .i64 0, .int .i64 0, .slice none 0 0] 30 := ((((((K33.out.set 0 (.slice none 0 0)).set 1 (.slice none 0 0)).set 2 (.int .i64 0)).set 3 (.int .i64 0)).set 4 (.int .i64 0)).set 5 (.slice none 0 0))
    have ht : Turn (fun k => k = w.heap.size + 1 + 1) w3 ((((((w3.setCell ⟨w.heap.size + 1 + 1, 0, none⟩ (.slice none 0 0)).setCell ⟨w.heap.size + 1 + 1, 1, none⟩ (.slice none 0 0)).setCell ⟨w.heap.size + 1 + 1, 2, none⟩ (.int .i64 0)).setCell ⟨w.heap.size + 1 + 1, 3, none⟩ (.int .i64 0)).setCell ⟨w.heap.size + 1 + 1, 4, none⟩ (.int .i64 0)).setCell ⟨w.heap.size + 1 + 1, 5, none⟩ (.slice none 0 0)) := (((((((Turn.of_below (X := fun k => k = w.heap.size + 1 + 1) (Below.refl _ w3)).setCell (B := w.heap.size + 1 + 1) rfl 0 (.slice none 0 0)).setCell (B := w.heap.size + 1 + 1) rfl 1 (.slice none 0 0)).setCell (B := w.heap.size + 1 + 1) rfl 2 (.int .i64 0)).setCell (B := w.heap.size + 1 + 1) rfl 3 (.int .i64 0)).setCell (B := w.heap.size + 1 + 1) rfl 4 (.int .i64 0)).setCell (B := w.heap.size + 1 + 1) rfl 5 (.slice none 0 0))
    generalize ((((((w3.setCell ⟨w.heap.size + 1 + 1, 0, none⟩ (.slice none 0 0)).setCell ⟨w.heap.size + 1 + 1, 1, none⟩ (.slice none 0 0)).setCell ⟨w.heap.size + 1 + 1, 2, none⟩ (.int .i64 0)).setCell ⟨w.heap.size + 1 + 1, 3, none⟩ (.int .i64 0)).setCell ⟨w.heap.size + 1 + 1, 4, none⟩ (.int .i64 0)).setCell ⟨w.heap.size + 1 + 1, 5, none⟩ (.slice none 0 0)) = wf at *
    obtain ⟨g0, g1, g2, g3, g4, g5⟩ := (show wf.cell? ⟨w.heap.size + 1 + 1, 0, none⟩ = some (.slice none 0 0) ∧ wf.cell? ⟨w.heap.size + 1 + 1, 1, none⟩ = some (.slice none 0 0) ∧ wf.cell? ⟨w.heap.size + 1 + 1, 2, none⟩ = some (.int .i64 0) ∧ wf.cell? ⟨w.heap.size + 1 + 1, 3, none⟩ = some (.int .i64 0) ∧ wf.cell? ⟨w.heap.size + 1 + 1, 4, none⟩ = some (.int .i64 0) ∧ wf.cell? ⟨w.heap.size + 1 + 1, 5, none⟩ = some (.slice none 0 0) from ⟨kf.cell 0, kf.cell 1, kf.cell 2, kf.cell 3, kf.cell 4, kf.cell 5⟩)
    refine bodyPost_ret (v := .tuple #[.agg #[.slice none 0 0, .slice none 0 0, .int .i64 0, .int .i64 0, .int .i64 0, .slice none 0 0], .int .i64 1]) (by simp [results, Tryd.results16, go_sem, g0, g1, g2, g3, g4, g5]) rfl ?_
    rw [HV.out]
    exact ⟨⟨zeroSkn, rfl, zero_is _, zero_fresh _, fun h0 => absurd h0 HN.out, fun _ => rfl⟩, HB3.out.trans (ht.below HB3.out.size (fun k e => by rw [show k = w.heap.size + 1 + 1 from e]; omega))⟩
  | true =>
  have hgr : 0 ≤ g ∧ g ≤ 1000 := by simpa [isFromB] using HT2.out
  have hsw : IntKind.i64.wrap (S.steep + g) = S.steep + g := by have := HST.out; rw [IntKind.wrap_i64]; omega
  clear hgr
  by_cases hq : 1000 < S.steep + g
  · have HV := Lib.hid (show seasonE S t g = 3 by rw [HVV.out, if_neg (by rw [HT1.out, HT2.out]; decide), if_pos hq])
    have HN := Lib.hid (show (3 : Int) ≠ 0 by decide)
    obtain ⟨r0, r1, r2, r3, r4, r5⟩ := (show w3.cell? ⟨w.heap.size + 1 + 1, 0, none⟩ = some (.slice none 0 0) ∧ w3.cell? ⟨w.heap.size + 1 + 1, 1, none⟩ = some (.slice none 0 0) ∧ w3.cell? ⟨w.heap.size + 1 + 1, 2, none⟩ = some (.int .i64 0) ∧ w3.cell? ⟨w.heap.size + 1 + 1, 3, none⟩ = some (.int .i64 0) ∧ w3.cell? ⟨w.heap.size + 1 + 1, 4, none⟩ = some (.int .i64 0) ∧ w3.cell? ⟨w.heap.size + 1 + 1, 5, none⟩ = some (.slice none 0 0) from ⟨K33.out.cell 0, K33.out.cell 1, K33.out.cell 2, K33.out.cell 3, K33.out.cell 4, K33.out.cell 5⟩)
    have l3 := K33.out.lt
    have z0 := K33.out.frozen 0
    have z1 := K33.out.frozen 1
    have z2 := K33.out.frozen 2
    have z3 := K33.out.frozen 3
    have z4 := K33.out.frozen 4
    have z5 := K33.out.frozen 5
    go_wp2_with fail
    have kf : Blk ((((((w3.setCell ⟨w.heap.size + 1 + 1, 0, none⟩ (.slice none 0 0)).setCell ⟨w.heap.size + 1 + 1, 1, none⟩ (.slice none 0 0)).setCell ⟨w.heap.size + 1 + 1, 2, none⟩ (.int .i64 0)).setCell ⟨w.heap.size + 1 + 1, 3, none⟩ (.int .i64 0)).setCell ⟨w.heap.size + 1 + 1, 4, none⟩ (.int .i64 0)).setCell ⟨w.heap.size + 1 + 1, 5, none⟩ (.slice none 0 0)) (w.heap.size + 1 + 1) #[.slice none 0 0, .slice none 0 0, .int .i64 0, .int .i64 0, .int .i64 0, .slice none 0 0] 30 := ((((((K33.out.set 0 (.slice none 0 0)).set 1 (.slice none 0 0)).set 2 (.int .i64 0)).set 3 (.int .i64 0)).set 4 (.int .i64 0)).set 5 (.slice none 0 0))
    have ht : Turn (fun k => k = w.heap.size + 1 + 1) w3 ((((((w3.setCell ⟨w.heap.size + 1 + 1, 0, none⟩ (.slice none 0 0)).setCell ⟨w.heap.size + 1 + 1, 1, none⟩ (.slice none 0 0)).setCell ⟨w.heap.size + 1 + 1, 2, none⟩ (.int .i64 0)).setCell ⟨w.heap.size + 1 + 1, 3, none⟩ (.int .i64 0)).setCell ⟨w.heap.size + 1 + 1, 4, none⟩ (.int .i64 0)).setCell ⟨w.heap.size + 1 + 1, 5, none⟩ (.slice none 0 0)) := (((((((Turn.of_below (X := fun k => k = w.heap.size + 1 + 1) (Below.refl _ w3)).setCell (B := w.heap.size + 1 + 1) rfl 0 (.slice none 0 0)).setCell (B := w.heap.size + 1 + 1) rfl 1 (.slice none 0 0)).setCell (B := w.heap.size + 1 + 1) rfl 2 (.int .i64 0)).setCell (B := w.heap.size + 1 + 1) rfl 3 (.int .i64 0)).setCell (B := w.heap.size + 1 + 1) rfl 4 (.int .i64 0)).setCell (B := w.heap.size + 1 + 1) rfl 5 (.slice none 0 0))
    generalize ((((((w3.setCell ⟨w.heap.size + 1 + 1, 0, none⟩ (.slice none 0 0)).setCell ⟨w.heap.size + 1 + 1, 1, none⟩ (.slice none 0 0)).setCell ⟨w.heap.size + 1 + 1, 2, none⟩ (.int .i64 0)).setCell ⟨w.heap.size + 1 + 1, 3, none⟩ (.int .i64 0)).setCell ⟨w.heap.size + 1 + 1, 4, none⟩ (.int .i64 0)).setCell ⟨w.heap.size + 1 + 1, 5, none⟩ (.slice none 0 0)) = wf at *
    obtain ⟨g0, g1, g2, g3, g4, g5⟩ := (show wf.cell? ⟨w.heap.size + 1 + 1, 0, none⟩ = some (.slice none 0 0) ∧ wf.cell? ⟨w.heap.size + 1 + 1, 1, none⟩ = some (.slice none 0 0) ∧ wf.cell? ⟨w.heap.size + 1 + 1, 2, none⟩ = some (.int .i64 0) ∧ wf.cell? ⟨w.heap.size + 1 + 1, 3, none⟩ = some (.int .i64 0) ∧ wf.cell? ⟨w.heap.size + 1 + 1, 4, none⟩ = some (.int .i64 0) ∧ wf.cell? ⟨w.heap.size + 1 + 1, 5, none⟩ = some (.slice none 0 0) from ⟨kf.cell 0, kf.cell 1, kf.cell 2, kf.cell 3, kf.cell 4, kf.cell 5⟩)
    refine bodyPost_ret (v := .tuple #[.agg #[.slice none 0 0, .slice none 0 0, .int .i64 0, .int .i64 0, .int .i64 0, .slice none 0 0], .int .i64 3]) (by simp [results, Tryd.results16, go_sem, g0, g1, g2, g3, g4, g5]) rfl ?_
    rw [HV.out]
    exact ⟨⟨zeroSkn, rfl, zero_is _, zero_fresh _, fun h0 => absurd h0 HN.out, fun _ => rfl⟩, HB3.out.trans (ht.below HB3.out.size (fun k e => by rw [show k = w.heap.size + 1 + 1 from e]; omega))⟩
  have HV := Lib.hid (show seasonE S t g = 0 by rw [HVV.out, if_neg (by rw [HT1.out, HT2.out]; decide), if_neg hq])
  have hq' : ¬ 1000 < S.steep + g := hq
  have HG := Lib.hid (skinE_ok HX.out)
  have HL := Lib.hid (skinE_area HX.out).1
  have HT := Lib.hid HT1.out
  clear hq
  go_wp2_with fail
  refine (refTwin_any S _ (HS.out.below HB3.out) (by have := HL.out; omega) (by have := areaE_few HG.out.area; omega) (by have := HG.out.few; omega)).mono ?_
  rintro e w4 ⟨⟨a1, a2, a3, c1, c2, c3, n, rfl, hn, hfar, hp, hh, hmk, how, hnw⟩, hb⟩
  have HB4 := Lib.hid (HB3.out.trans (hb.mono HB3.out.size))
  have HLT := Lib.hid (show w.heap.size + 1 + 1 < w3.heap.size from K33.out.lt)
  have HN := Lib.hid (show w.heap.size + 1 + 1 < n ∧ w3.heap.size ≤ n ∧ n ≤ w4.heap.size from ⟨by have := K33.out.lt; omega, hn, hnw⟩)
  have HFAR := Lib.hid hfar
  have HP := Lib.hid hp
  have HH := Lib.hid hh
  have HMK := Lib.hid hmk
  have HOW := Lib.hid how
  clear s0 s1 s2 s3 s4 s5 l1 t0 tt1 l2
  have K14 := Lib.hid (K13.out.belowS hb)
  have K24 := Lib.hid (K23.out.belowS hb)
  have K34 := Lib.hid (K33.out.belowS hb)
  clear hb hn hfar hp hh hmk how hnw K13 K23 K33
  obtain ⟨s0, s1, s2, s3, s4, s5⟩ := (show w4.cell? ⟨w.heap.size, 0, none⟩ = some (.slice S.pa S.pts.length S.pc) ∧ w4.cell? ⟨w.heap.size, 1, none⟩ = some (.slice S.ha S.hs.length S.hc) ∧ w4.cell? ⟨w.heap.size, 2, none⟩ = some (.int .i64 S.steep) ∧ w4.cell? ⟨w.heap.size, 3, none⟩ = some (.int .i64 S.th.lo) ∧ w4.cell? ⟨w.heap.size, 4, none⟩ = some (.int .i64 S.th.hi) ∧ w4.cell? ⟨w.heap.size, 5, none⟩ = some (.slice S.ma S.ms.length S.mc) from ⟨K14.out.cell 0, K14.out.cell 1, K14.out.cell 2, K14.out.cell 3, K14.out.cell 4, K14.out.cell 5⟩)
  have l1 := K14.out.lt
  obtain ⟨t0, t1⟩ := spn_cells (s := t) K24.out
  have l2 := K24.out.lt
  have z0 := K14.out.frozen 0
  have z1 := K14.out.frozen 1
  have z2 := K14.out.frozen 2
  have z3 := K14.out.frozen 3
  have z4 := K14.out.frozen 4
  have z5 := K14.out.frozen 5
  go_upto_region 10 with fail
  have kf : Blk ((((((w4.setCell ⟨w.heap.size, 0, none⟩ (.slice a1 S.pts.length c1)).setCell ⟨w.heap.size, 1, none⟩ (.slice a2 S.hs.length c2)).setCell ⟨w.heap.size, 2, none⟩ (.int .i64 S.steep)).setCell ⟨w.heap.size, 3, none⟩ (.int .i64 S.th.lo)).setCell ⟨w.heap.size, 4, none⟩ (.int .i64 S.th.hi)).setCell ⟨w.heap.size, 5, none⟩ (.slice a3 S.ms.length c3)) (w.heap.size) #[.slice a1 S.pts.length c1, .slice a2 S.hs.length c2, .int .i64 S.steep, .int .i64 S.th.lo, .int .i64 S.th.hi, .slice a3 S.ms.length c3] 30 := ((((((K14.out.set 0 (.slice a1 S.pts.length c1)).set 1 (.slice a2 S.hs.length c2)).set 2 (.int .i64 S.steep)).set 3 (.int .i64 S.th.lo)).set 4 (.int .i64 S.th.hi)).set 5 (.slice a3 S.ms.length c3))
  have ht : Turn (fun k => k = w.heap.size) w4 ((((((w4.setCell ⟨w.heap.size, 0, none⟩ (.slice a1 S.pts.length c1)).setCell ⟨w.heap.size, 1, none⟩ (.slice a2 S.hs.length c2)).setCell ⟨w.heap.size, 2, none⟩ (.int .i64 S.steep)).setCell ⟨w.heap.size, 3, none⟩ (.int .i64 S.th.lo)).setCell ⟨w.heap.size, 4, none⟩ (.int .i64 S.th.hi)).setCell ⟨w.heap.size, 5, none⟩ (.slice a3 S.ms.length c3)) := (((((((Turn.of_below (X := fun k => k = w.heap.size) (Below.refl _ w4)).setCell (B := w.heap.size) rfl 0 (.slice a1 S.pts.length c1)).setCell (B := w.heap.size) rfl 1 (.slice a2 S.hs.length c2)).setCell (B := w.heap.size) rfl 2 (.int .i64 S.steep)).setCell (B := w.heap.size) rfl 3 (.int .i64 S.th.lo)).setCell (B := w.heap.size) rfl 4 (.int .i64 S.th.hi)).setCell (B := w.heap.size) rfl 5 (.slice a3 S.ms.length c3))
  generalize ((((((w4.setCell ⟨w.heap.size, 0, none⟩ (.slice a1 S.pts.length c1)).setCell ⟨w.heap.size, 1, none⟩ (.slice a2 S.hs.length c2)).setCell ⟨w.heap.size, 2, none⟩ (.int .i64 S.steep)).setCell ⟨w.heap.size, 3, none⟩ (.int .i64 S.th.lo)).setCell ⟨w.heap.size, 4, none⟩ (.int .i64 S.th.hi)).setCell ⟨w.heap.size, 5, none⟩ (.slice a3 S.ms.length c3)) = w5 at *
  have K15 := Lib.hid kf
  have HT45 := Lib.hid ht
  have K25 := Lib.hid (ht.blk K24.out (fun e => by have := (show w.heap.size + 1 = w.heap.size from e); omega))
  have K35 := Lib.hid (ht.blk K34.out (fun e => by have := (show w.heap.size + 1 + 1 = w.heap.size from e); omega))
  clear s0 s1 s2 s3 s4 s5 l1 t0 t1 l2 z0 z1 z2 z3 z4 z5 kf ht
  clear K14 K24 K34
  obtain ⟨s0, s1, s2, s3, s4, s5⟩ := (show w5.cell? ⟨w.heap.size, 0, none⟩ = some (.slice a1 S.pts.length c1) ∧ w5.cell? ⟨w.heap.size, 1, none⟩ = some (.slice a2 S.hs.length c2) ∧ w5.cell? ⟨w.heap.size, 2, none⟩ = some (.int .i64 S.steep) ∧ w5.cell? ⟨w.heap.size, 3, none⟩ = some (.int .i64 S.th.lo) ∧ w5.cell? ⟨w.heap.size, 4, none⟩ = some (.int .i64 S.th.hi) ∧ w5.cell? ⟨w.heap.size, 5, none⟩ = some (.slice a3 S.ms.length c3) from ⟨K15.out.cell 0, K15.out.cell 1, K15.out.cell 2, K15.out.cell 3, K15.out.cell 4, K15.out.cell 5⟩)
  have l1 := K15.out.lt
  obtain ⟨t0, t1⟩ := spn_cells (s := t) K25.out
  have l2 := K25.out.lt
  have z2 := K15.out.frozen 2
  go_upto_region 11 with fail
  have kf : Blk (w5.setCell ⟨w.heap.size, 2, none⟩ (.int .i64 (S.steep + g))) (w.heap.size) #[.slice a1 S.pts.length c1, .slice a2 S.hs.length c2, .int .i64 (S.steep + g), .int .i64 S.th.lo, .int .i64 S.th.hi, .slice a3 S.ms.length c3] 30 := K15.out.set 2 _
  have ht : Turn (fun k => k = w.heap.size) w5 (w5.setCell ⟨w.heap.size, 2, none⟩ (.int .i64 (S.steep + g))) := (Turn.of_below (X := fun k => k = w.heap.size) (Below.refl _ w5)).setCell (B := w.heap.size) rfl 2 _
  generalize w5.setCell ⟨w.heap.size, 2, none⟩ (.int .i64 (S.steep + g)) = w5b at *
  have K15b := Lib.hid kf
  have HT45b := Lib.hid (HT45.out.trans ht)
  have K25b := Lib.hid (ht.blk K25.out (fun e => by have := (show w.heap.size + 1 = w.heap.size from e); omega))
  have K35b := Lib.hid (ht.blk K35.out (fun e => by have := (show w.heap.size + 1 + 1 = w.heap.size from e); omega))
  clear s0 s1 s2 s3 s4 s5 l1 t0 t1 l2 z2 kf ht
  clear K15 K25 K35 HT45
  obtain ⟨s0, s1, s2, s3, s4, s5⟩ := (show w5b.cell? ⟨w.heap.size, 0, none⟩ = some (.slice a1 S.pts.length c1) ∧ w5b.cell? ⟨w.heap.size, 1, none⟩ = some (.slice a2 S.hs.length c2) ∧ w5b.cell? ⟨w.heap.size, 2, none⟩ = some (.int .i64 (S.steep + g)) ∧ w5b.cell? ⟨w.heap.size, 3, none⟩ = some (.int .i64 S.th.lo) ∧ w5b.cell? ⟨w.heap.size, 4, none⟩ = some (.int .i64 S.th.hi) ∧ w5b.cell? ⟨w.heap.size, 5, none⟩ = some (.slice a3 S.ms.length c3) from ⟨K15b.out.cell 0, K15b.out.cell 1, K15b.out.cell 2, K15b.out.cell 3, K15b.out.cell 4, K15b.out.cell 5⟩)
  have l1 := K15b.out.lt
  obtain ⟨t0, t1⟩ := spn_cells (s := t) K25b.out
  have l2 := K25b.out.lt
  go_wp2_with fail
  refine (refLess_any S.th t HG.out.th HT.out _).mono ?_
  rintro e w5c ⟨rfl, hb⟩
  obtain ⟨L, hL⟩ : ∃ L, lessS S.th t = L := ⟨_, rfl⟩
  rw [hL]
  have HL3 := Lib.hid hL
  clear s0 s1 s2 s3 s4 s5 l1 t0 t1 l2
  have K15c := Lib.hid (K15b.out.belowS hb)
  have K25c := Lib.hid (K25b.out.belowS hb)
  have K35c := Lib.hid (K35b.out.belowS hb)
  have HT45c := Lib.hid (HT45b.out.trans (Turn.of_below hb))
  clear hb hL K15b K25b K35b HT45b
  obtain ⟨s0, s1, s2, s3, s4, s5⟩ := (show w5c.cell? ⟨w.heap.size, 0, none⟩ = some (.slice a1 S.pts.length c1) ∧ w5c.cell? ⟨w.heap.size, 1, none⟩ = some (.slice a2 S.hs.length c2) ∧ w5c.cell? ⟨w.heap.size, 2, none⟩ = some (.int .i64 (S.steep + g)) ∧ w5c.cell? ⟨w.heap.size, 3, none⟩ = some (.int .i64 S.th.lo) ∧ w5c.cell? ⟨w.heap.size, 4, none⟩ = some (.int .i64 S.th.hi) ∧ w5c.cell? ⟨w.heap.size, 5, none⟩ = some (.slice a3 S.ms.length c3) from ⟨K15c.out.cell 0, K15c.out.cell 1, K15c.out.cell 2, K15c.out.cell 3, K15c.out.cell 4, K15c.out.cell 5⟩)
  have l1 := K15c.out.lt
  obtain ⟨t0, t1⟩ := spn_cells (s := t) K25c.out
  have l2 := K25c.out.lt
  have z3 := K15c.out.frozen 3
  have z4 := K15c.out.frozen 4
  go_upto_region 12 with fail
  have kf : Blk ((w5c.setCell ⟨w.heap.size, 3, none⟩ (.int .i64 L.lo)).setCell ⟨w.heap.size, 4, none⟩ (.int .i64 L.hi)) (w.heap.size) #[.slice a1 S.pts.length c1, .slice a2 S.hs.length c2, .int .i64 (S.steep + g), .int .i64 L.lo, .int .i64 L.hi, .slice a3 S.ms.length c3] 30 := (K15c.out.set 3 _).set 4 _
  have ht : Turn (fun k => k = w.heap.size) w5c ((w5c.setCell ⟨w.heap.size, 3, none⟩ (.int .i64 L.lo)).setCell ⟨w.heap.size, 4, none⟩ (.int .i64 L.hi)) := ((Turn.of_below (X := fun k => k = w.heap.size) (Below.refl _ w5c)).setCell (B := w.heap.size) rfl 3 _).setCell (B := w.heap.size) rfl 4 _
  generalize (w5c.setCell ⟨w.heap.size, 3, none⟩ (.int .i64 L.lo)).setCell ⟨w.heap.size, 4, none⟩ (.int .i64 L.hi) = w6 at *
  have K16 := Lib.hid kf
  have HT46 := Lib.hid (HT45c.out.trans ht)
  have K26 := Lib.hid (ht.blk K25c.out (fun e => by have := (show w.heap.size + 1 = w.heap.size from e); omega))
  have K36 := Lib.hid (ht.blk K35c.out (fun e => by have := (show w.heap.size + 1 + 1 = w.heap.size from e); omega))
  clear s0 s1 s2 s3 s4 s5 l1 t0 t1 l2 z3 z4 kf ht
  clear K15c K25c K35c HT45c
  have HB6 := Lib.hid (HB4.out.trans (HT46.out.below HB4.out.size (fun k e => by rw [show k = w.heap.size from e]; exact Nat.le_refl _)))
  have hX1 : ∀ (x : Addr), a1 = some x ∨ a2 = some x → ¬ x.block = w.heap.size := fun x hx => by
    have := (HFAR.out x hx).1
    have := HLT.out
    omega
  have HP6 := Lib.hid (HP.out.turn HT46.out (fun x hx => hX1 x (.inl hx)))
  have HH6 := Lib.hid (HH.out.turn HT46.out (fun x hx => hX1 x (.inr hx)))
  have HMK6 := Lib.hid (HMK.out.turn HT46.out (fun k e => by have := HN.out.1; have := (show k = w.heap.size from e); omega))
  clear hX1 HP HH HMK
  obtain ⟨s0, s1, s2, s3, s4, s5⟩ := (show w6.cell? ⟨w.heap.size, 0, none⟩ = some (.slice a1 S.pts.length c1) ∧ w6.cell? ⟨w.heap.size, 1, none⟩ = some (.slice a2 S.hs.length c2) ∧ w6.cell? ⟨w.heap.size, 2, none⟩ = some (.int .i64 (S.steep + g)) ∧ w6.cell? ⟨w.heap.size, 3, none⟩ = some (.int .i64 L.lo) ∧ w6.cell? ⟨w.heap.size, 4, none⟩ = some (.int .i64 L.hi) ∧ w6.cell? ⟨w.heap.size, 5, none⟩ = some (.slice a3 S.ms.length c3) from ⟨K16.out.cell 0, K16.out.cell 1, K16.out.cell 2, K16.out.cell 3, K16.out.cell 4, K16.out.cell 5⟩)
  have l1 := K16.out.lt
  obtain ⟨t0, t1⟩ := spn_cells (s := t) K26.out
  have l2 := K26.out.lt
  go_wp2_with fail
  go_loopw [9] (fun s9 wr => ∃ j : Nat, j ≤ S.ms.length ∧ s9 = .int .i64 j ∧ OwnMarks wr n a3 c3 ((S.ms.take j).map (lessK t) ++ S.ms.drop j) ∧ Turn (fun k => n ≤ k ∧ k < w4.heap.size) w6 wr) (fun i _ => S.ms.length - (intOf i).toNat)
  case atStart => exact ⟨0, Nat.zero_le _, rfl, by simpa using HMK6.out, Turn.of_below (Below.refl _ _)⟩
  case round =>
  clear s0 s1 s2 s3 s4 s5 l1 t0 t1 l2
  obtain ⟨j, hj, rfl, hmj, htj⟩ := hrel
  obtain ⟨w7, rfl⟩ : ∃ w7 : World, w7 = wr := ⟨_, rfl⟩
  have hXn : ∀ k, (n ≤ k ∧ k < w4.heap.size) → w.heap.size + 1 + 1 < k := fun k h => by have := HN.out.1; omega
  have K17 := Lib.hid (htj.blk K16.out (fun e => by have := hXn _ e; omega))
  have K27 := Lib.hid (htj.blk K26.out (fun e => by have := hXn _ e; omega))
  have K37 := Lib.hid (htj.blk K36.out (fun e => by have := hXn _ e; omega))
  have HB7 := Lib.hid (HB6.out.trans (htj.below HB6.out.size (fun k e => by have := hXn _ e; omega)))
  have HMJ := Lib.hid hmj
  have HTJ := Lib.hid htj
  clear hXn hmj htj K16 K26 K36
  obtain ⟨s0, s1, s2, s3, s4, s5⟩ := (show w7.cell? ⟨w.heap.size, 0, none⟩ = some (.slice a1 S.pts.length c1) ∧ w7.cell? ⟨w.heap.size, 1, none⟩ = some (.slice a2 S.hs.length c2) ∧ w7.cell? ⟨w.heap.size, 2, none⟩ = some (.int .i64 (S.steep + g)) ∧ w7.cell? ⟨w.heap.size, 3, none⟩ = some (.int .i64 L.lo) ∧ w7.cell? ⟨w.heap.size, 4, none⟩ = some (.int .i64 L.hi) ∧ w7.cell? ⟨w.heap.size, 5, none⟩ = some (.slice a3 S.ms.length c3) from ⟨K17.out.cell 0, K17.out.cell 1, K17.out.cell 2, K17.out.cell 3, K17.out.cell 4, K17.out.cell 5⟩)
  have l1 := K17.out.lt
  obtain ⟨t0, t1⟩ := spn_cells (s := t) K27.out
  have l2 := K27.out.lt
  by_cases hlj : j < S.ms.length
  rotate_left
  · obtain rfl : j = S.ms.length := by omega
    have hlj' : ¬ (S.ms.length : Int) < (S.ms.length : Int) := by omega
    have HMZ := Lib.hid (show OwnMarks w7 n a3 c3 (S.ms.map (lessK t)) by
      have := HMJ.out
      rwa [List.take_of_length_le (Nat.le_refl _), List.drop_of_length_le (Nat.le_refl _), List.append_nil] at this)
    clear hlj hj
    obtain ⟨r0, r1, r2, r3, r4, r5⟩ := (show w7.cell? ⟨w.heap.size + 1 + 1, 0, none⟩ = some (.slice none 0 0) ∧ w7.cell? ⟨w.heap.size + 1 + 1, 1, none⟩ = some (.slice none 0 0) ∧ w7.cell? ⟨w.heap.size + 1 + 1, 2, none⟩ = some (.int .i64 0) ∧ w7.cell? ⟨w.heap.size + 1 + 1, 3, none⟩ = some (.int .i64 0) ∧ w7.cell? ⟨w.heap.size + 1 + 1, 4, none⟩ = some (.int .i64 0) ∧ w7.cell? ⟨w.heap.size + 1 + 1, 5, none⟩ = some (.slice none 0 0) from ⟨K37.out.cell 0, K37.out.cell 1, K37.out.cell 2, K37.out.cell 3, K37.out.cell 4, K37.out.cell 5⟩)
    have l3 := K37.out.lt
    have z0 := K37.out.frozen 0
    have z1 := K37.out.frozen 1
    have z2 := K37.out.frozen 2
    have z3 := K37.out.frozen 3
    have z4 := K37.out.frozen 4
    have z5 := K37.out.frozen 5
    go_wp2_with fail
    have kf : Blk ((((((w7.setCell ⟨w.heap.size + 1 + 1, 0, none⟩ (.slice a1 S.pts.length c1)).setCell ⟨w.heap.size + 1 + 1, 1, none⟩ (.slice a2 S.hs.length c2)).setCell ⟨w.heap.size + 1 + 1, 2, none⟩ (.int .i64 (S.steep + g))).setCell ⟨w.heap.size + 1 + 1, 3, none⟩ (.int .i64 L.lo)).setCell ⟨w.heap.size + 1 + 1, 4, none⟩ (.int .i64 L.hi)).setCell ⟨w.heap.size + 1 + 1, 5, none⟩ (.slice a3 S.ms.length c3)) (w.heap.size + 1 + 1) #[.slice a1 S.pts.length c1, .slice a2 S.hs.length c2, .int .i64 (S.steep + g), .int .i64 L.lo, .int .i64 L.hi, .slice a3 S.ms.length c3] 30 := ((((((K37.out.set 0 (.slice a1 S.pts.length c1)).set 1 (.slice a2 S.hs.length c2)).set 2 (.int .i64 (S.steep + g))).set 3 (.int .i64 L.lo)).set 4 (.int .i64 L.hi)).set 5 (.slice a3 S.ms.length c3))
    have ht : Turn (fun k => k = w.heap.size + 1 + 1) w7 ((((((w7.setCell ⟨w.heap.size + 1 + 1, 0, none⟩ (.slice a1 S.pts.length c1)).setCell ⟨w.heap.size + 1 + 1, 1, none⟩ (.slice a2 S.hs.length c2)).setCell ⟨w.heap.size + 1 + 1, 2, none⟩ (.int .i64 (S.steep + g))).setCell ⟨w.heap.size + 1 + 1, 3, none⟩ (.int .i64 L.lo)).setCell ⟨w.heap.size + 1 + 1, 4, none⟩ (.int .i64 L.hi)).setCell ⟨w.heap.size + 1 + 1, 5, none⟩ (.slice a3 S.ms.length c3)) := (((((((Turn.of_below (X := fun k => k = w.heap.size + 1 + 1) (Below.refl _ w7)).setCell (B := w.heap.size + 1 + 1) rfl 0 (.slice a1 S.pts.length c1)).setCell (B := w.heap.size + 1 + 1) rfl 1 (.slice a2 S.hs.length c2)).setCell (B := w.heap.size + 1 + 1) rfl 2 (.int .i64 (S.steep + g))).setCell (B := w.heap.size + 1 + 1) rfl 3 (.int .i64 L.lo)).setCell (B := w.heap.size + 1 + 1) rfl 4 (.int .i64 L.hi)).setCell (B := w.heap.size + 1 + 1) rfl 5 (.slice a3 S.ms.length c3))
    generalize ((((((w7.setCell ⟨w.heap.size + 1 + 1, 0, none⟩ (.slice a1 S.pts.length c1)).setCell ⟨w.heap.size + 1 + 1, 1, none⟩ (.slice a2 S.hs.length c2)).setCell ⟨w.heap.size + 1 + 1, 2, none⟩ (.int .i64 (S.steep + g))).setCell ⟨w.heap.size + 1 + 1, 3, none⟩ (.int .i64 L.lo)).setCell ⟨w.heap.size + 1 + 1, 4, none⟩ (.int .i64 L.hi)).setCell ⟨w.heap.size + 1 + 1, 5, none⟩ (.slice a3 S.ms.length c3)) = wf at *
    clear s0 s1 s2 s3 s4 s5 l1 t0 t1 l2
    clear r0 r1 r2 r3 r4 r5 l3 z0 z1 z2 z3 z4 z5
    obtain ⟨g0, g1, g2, g3, g4, g5⟩ := (show wf.cell? ⟨w.heap.size + 1 + 1, 0, none⟩ = some (.slice a1 S.pts.length c1) ∧ wf.cell? ⟨w.heap.size + 1 + 1, 1, none⟩ = some (.slice a2 S.hs.length c2) ∧ wf.cell? ⟨w.heap.size + 1 + 1, 2, none⟩ = some (.int .i64 (S.steep + g)) ∧ wf.cell? ⟨w.heap.size + 1 + 1, 3, none⟩ = some (.int .i64 L.lo) ∧ wf.cell? ⟨w.heap.size + 1 + 1, 4, none⟩ = some (.int .i64 L.hi) ∧ wf.cell? ⟨w.heap.size + 1 + 1, 5, none⟩ = some (.slice a3 S.ms.length c3) from ⟨kf.cell 0, kf.cell 1, kf.cell 2, kf.cell 3, kf.cell 4, kf.cell 5⟩)
    have hr2 := HMZ.out.turn ht (fun k e => by have := HN.out.1; have := (show k = w.heap.size + 1 + 1 from e); omega)
    have hX2 : ∀ x : Addr, a1 = some x ∨ a2 = some x → ¬ (n ≤ x.block ∧ x.block < w4.heap.size) := fun x hx e => by have := (HFAR.out x hx).2; omega
    have hX3 : ∀ x : Addr, a1 = some x ∨ a2 = some x → ¬ x.block = w.heap.size + 1 + 1 := fun x hx e => by have := (HFAR.out x hx).1; have := HLT.out; omega
    have hlm : (S.ms.map (lessK t)).length = S.ms.length := List.length_map _
    refine bodyPost_ret (v := .tuple #[.agg #[.slice a1 S.pts.length c1, .slice a2 S.hs.length c2, .int .i64 (S.steep + g), .int .i64 L.lo, .int .i64 L.hi, .slice a3 S.ms.length c3], .int .i64 0]) (by simp [results, Tryd.results16, go_sem, g0, g1, g2, g3, g4, g5]) rfl ?_
    rw [HV.out]
    refine ⟨⟨⟨a1, c1, S.pts, a2, c2, S.hs, S.steep + g, L, a3, c3, S.ms.map (lessK t)⟩, ?_, ⟨?_, ?_, ?_⟩, ?_, fun _ => ⟨rfl, rfl, rfl, HL3.out.symm, rfl⟩, fun h0 => absurd rfl h0⟩, HB7.out.trans (ht.below HB7.out.size (fun k e => by rw [show k = w.heap.size + 1 + 1 from e]; omega))⟩
    · simp only [sknC, hlm]
    · exact (HP6.out.turn HTJ.out (fun x hx => hX2 x (.inl hx))).turn ht (fun x hx => hX3 x (.inl hx))
    · exact (HH6.out.turn HTJ.out (fun x hx => hX2 x (.inr hx))).turn ht (fun x hx => hX3 x (.inr hx))
    · exact hr2.row
    · refine Fresh.mk3 (fun x hx => ?_) (fun x hx => ?_) (fun x hx => ?_)
      · have := (HFAR.out x (.inl hx)).1; have := HLT.out; omega
      · have := (HFAR.out x (.inr hx)).1; have := HLT.out; omega
      · have := (HOW.out x hx).1; have := HN.out.1; omega
  have hlj' : (j : Int) < (S.ms.length : Int) := by omega
  have hj0 : (0 : Int) ≤ (j : Int) := Int.natCast_nonneg _
  have hq : S.ms[j]? = some S.ms[j] := List.getElem?_eq_getElem hlj
  have hjs : IntKind.i64.wrap ((j : Int) + 1) = ((j + 1 : Nat) : Int) := by have := HG.out.few; rw [IntKind.wrap_i64]; omega
  have HMT := Lib.hid ((HG.out.marks _ (List.getElem_mem hlj)).1).2
  have HLR := Lib.hid (less_round t hq)
  generalize S.ms[j] = m at *
  obtain ⟨gm, cur, ea3, hng, hc3, hcx3, hBm, hrm⟩ : ∃ gm cur, a3 = some ⟨gm, 0, none⟩ ∧ n ≤ gm ∧ S.ms.length ≤ c3 ∧ c3 ≤ 9223372036854775807 ∧ Blk w7 gm cur 61 ∧ rowAt cur ((S.ms.take j).map (lessK t) ++ S.ms.drop j) := by
    rcases HMJ.out with ⟨h, _⟩ | ⟨gm, cur, h1, h2, h3, h4, h5, h6⟩
    · exfalso
      have := HLR.out.1
      rw [h] at this
      cases this
    · exact ⟨gm, cur, h1, h2, by simpa [Nat.min_eq_left (Nat.le_of_lt hlj), Nat.add_sub_cancel' (Nat.le_of_lt hlj)] using h3, h4, h5, h6⟩
  have HGW := Lib.hid (show n ≤ gm ∧ gm < w4.heap.size from ⟨hng, (HOW.out _ ea3).2⟩)
  subst ea3
  have HRM := Lib.hid hrm
  have HC3 := Lib.hid (And.intro hc3 hcx3)
  have KG7 := Lib.hid hBm
  have HLJ := Lib.hid hlj
  clear hq hj hlj hBm hrm hng hc3 hcx3 HMJ
  go_upto_region 15 with fail
  clear s0 s1 s2 s3 s4 s5 l1 t0 t1 l2
  have hst : ∀ w', Below w7.heap.size w7 w' → (fun w' : World => Below w7.heap.size w7 w' ∧ ((w'.cell? ⟨w.heap.size, 5, none⟩ = some (.slice (some ⟨gm, 0, none⟩) S.ms.length c3)) ∧ w'.cell? ⟨w.heap.size + 1, 0, none⟩ = some (.int .i64 t.lo) ∧ w'.cell? ⟨w.heap.size + 1, 1, none⟩ = some (.int .i64 t.hi) ∧ w'.cell? ⟨gm, j * 4 + 2, none⟩ = some (.int .i64 m.th.lo) ∧ w'.cell? ⟨gm, j * 4 + 3, none⟩ = some (.int .i64 m.th.hi))) w' := fun w' hb => by
    have x1 := K17.out.belowS hb
    have x2 := KG7.out.belowS hb
    have x3 := K27.out.belowS hb
    obtain ⟨hrm2, _⟩ := HLR.out
    have hrr := HRM.out j m hrm2
    exact ⟨hb, x1.cell 5, x3.cell 0, x3.cell 1, (x2.cell _).trans (hrr 2 (by omega)), (x2.cell _).trans (hrr 3 (by omega))⟩
  have HSTW := Lib.hid hst
  clear hst
  have hx := HSTW.out w7.drew ((Below.refl _ w7).drew)
  refine wp_region_E 13 (fun w' : World => Below w7.heap.size w7 w' ∧ ((w'.cell? ⟨w.heap.size, 5, none⟩ = some (.slice (some ⟨gm, 0, none⟩) S.ms.length c3)) ∧ w'.cell? ⟨w.heap.size + 1, 0, none⟩ = some (.int .i64 t.lo) ∧ w'.cell? ⟨w.heap.size + 1, 1, none⟩ = some (.int .i64 t.hi) ∧ w'.cell? ⟨gm, j * 4 + 2, none⟩ = some (.int .i64 m.th.lo) ∧ w'.cell? ⟨gm, j * 4 + 3, none⟩ = some (.int .i64 m.th.hi))) (by kernel_rfl) ?_
  refine E_take (i := 0) (oi := _) (v := ?vt10) rfl (by kernel_rfl) (by kernel_rfl) (by kernel_rfl) (by kernel_rfl) (fun _ _ _ h => h) hx (Or.inl ⟨by rfl, ?yt10⟩) ?rt10
  case yt10 => (intro w' hSw; (try dsimp only at hSw); go_simp; try with_reducible rfl)
  try simp only [Act.put, List.getElem_toArray, List.getElem_cons_zero, List.getElem_cons_succ, List.setIfInBounds_toArray, List.set_cons_zero, List.set_cons_succ]
  refine E_take (i := 1) (oi := _) (v := ?vt11) rfl (by kernel_rfl) (by kernel_rfl) (by kernel_rfl) (by kernel_rfl) (fun _ _ _ h => h) hx (Or.inl ⟨by rfl, ?yt11⟩) ?rt11
  case yt11 => (intro w' hSw; (try dsimp only at hSw); go_simp; try with_reducible rfl)
  try simp only [Act.put, List.getElem_toArray, List.getElem_cons_zero, List.getElem_cons_succ, List.setIfInBounds_toArray, List.set_cons_zero, List.set_cons_succ]
  refine E_take (i := 2) (oi := _) (v := ?vt12) rfl (by kernel_rfl) (by kernel_rfl) (by kernel_rfl) (by kernel_rfl) (fun _ _ _ h => h) hx (Or.inl ⟨by rfl, ?yt12⟩) ?rt12
  case yt12 => (intro w' hSw; (try dsimp only at hSw); go_simp; try with_reducible rfl)
  try simp only [Act.put, List.getElem_toArray, List.getElem_cons_zero, List.getElem_cons_succ, List.setIfInBounds_toArray, List.set_cons_zero, List.set_cons_succ]
  refine E_take (i := 3) (oi := _) (v := ?vt13) rfl (by kernel_rfl) (by kernel_rfl) (by kernel_rfl) (by kernel_rfl) (fun _ _ _ h => h) hx (Or.inl ⟨by rfl, ?yt13⟩) ?rt13
  case yt13 => (intro w' hSw; (try dsimp only at hSw); go_simp; try with_reducible rfl)
  try simp only [Act.put, List.getElem_toArray, List.getElem_cons_zero, List.getElem_cons_succ, List.setIfInBounds_toArray, List.set_cons_zero, List.set_cons_succ]
  refine E_take (i := 4) (oi := _) (v := ?vt14) rfl (by kernel_rfl) (by kernel_rfl) (by kernel_rfl) (by kernel_rfl) (fun _ _ _ h => h) hx (Or.inl ⟨by rfl, ?yt14⟩) ?rt14
  case yt14 => (intro w' hSw; (try dsimp only at hSw); go_simp; try with_reducible rfl)
  try simp only [Act.put, List.getElem_toArray, List.getElem_cons_zero, List.getElem_cons_succ, List.setIfInBounds_toArray, List.set_cons_zero, List.set_cons_succ]
  refine E_take (i := 5) (oi := _) (v := ?vt15) rfl (by kernel_rfl) (by kernel_rfl) (by kernel_rfl) (by kernel_rfl) (fun _ _ _ h => h) hx (Or.inl ⟨by rfl, ?yt15⟩) ?rt15
  case yt15 => (intro w' hSw; (try dsimp only at hSw); go_simp; try with_reducible rfl)
  try simp only [Act.put, List.getElem_toArray, List.getElem_cons_zero, List.getElem_cons_succ, List.setIfInBounds_toArray, List.set_cons_zero, List.set_cons_succ]
  refine E_take (i := 6) (oi := _) (v := ?vt16) rfl (by kernel_rfl) (by kernel_rfl) (by kernel_rfl) (by kernel_rfl) (fun _ _ _ h => h) hx (Or.inl ⟨by rfl, ?yt16⟩) ?rt16
  case yt16 => (intro w' hSw; (try dsimp only at hSw); go_simp; try with_reducible rfl)
  try simp only [Act.put, List.getElem_toArray, List.getElem_cons_zero, List.getElem_cons_succ, List.setIfInBounds_toArray, List.set_cons_zero, List.set_cons_succ]
  refine E_take (i := 7) (oi := _) (v := ?vt17) rfl (by kernel_rfl) (by kernel_rfl) (by kernel_rfl) (by kernel_rfl) (fun _ _ _ h => h) hx (Or.inl ⟨by rfl, ?yt17⟩) ?rt17
  case yt17 => (intro w' hSw; (try dsimp only at hSw); go_simp; try with_reducible rfl)
  try simp only [Act.put, List.getElem_toArray, List.getElem_cons_zero, List.getElem_cons_succ, List.setIfInBounds_toArray, List.set_cons_zero, List.set_cons_succ]
  refine E_take (i := 8) (oi := _) (v := ?vt18) rfl (by kernel_rfl) (by kernel_rfl) (by kernel_rfl) (by kernel_rfl) (fun _ _ _ h => h) hx (Or.inl ⟨by rfl, ?yt18⟩) ?rt18
  case yt18 => (intro w' hSw; (try dsimp only at hSw); go_simp; try with_reducible rfl)
  try simp only [Act.put, List.getElem_toArray, List.getElem_cons_zero, List.getElem_cons_succ, List.setIfInBounds_toArray, List.set_cons_zero, List.set_cons_succ]
  refine E_take (i := 9) (oi := _) (v := ?vt19) rfl (by kernel_rfl) (by kernel_rfl) (by kernel_rfl) (by kernel_rfl) (fun _ _ _ h => h) hx (Or.inl ⟨by rfl, ?yt19⟩) ?rt19
  case yt19 => (intro w' hSw; (try dsimp only at hSw); go_simp; try with_reducible rfl)
  try simp only [Act.put, List.getElem_toArray, List.getElem_cons_zero, List.getElem_cons_succ, List.setIfInBounds_toArray, List.set_cons_zero, List.set_cons_succ]
  refine E_step (i := 10) (o := _) (by kernel_rfl) rfl (fun K hK => ?_)
  go_simp
  refine (refLess_any m.th t HMT.out HT.out _).mono ?_
  rintro e w8 ⟨rfl, hb8⟩
  (try dsimp only)
  have hb78 : Below w7.heap.size w7 w8 := hx.1.trans (hb8.mono hx.1.size)
  refine hK.out _ _ (fun _ => HSTW.out w8 hb78) ?_
  clear hK K
  try simp only [Act.put, List.getElem_toArray, List.getElem_cons_zero, List.getElem_cons_succ, List.setIfInBounds_toArray, List.set_cons_zero, List.set_cons_succ]
  have hx8 := HSTW.out w8 hb78
  refine E_step (i := 11) (o := _) (by kernel_rfl) rfl (fun K hK => ?_)
  go_simp
  refine hK.out _ _ (fun _ => hx8) ?_
  clear hK K
  try simp only [Act.put, List.getElem_toArray, List.getElem_cons_zero, List.getElem_cons_succ, List.setIfInBounds_toArray, List.set_cons_zero, List.set_cons_succ]
  refine E_take (i := 12) (oi := _) (v := ?vt20) rfl (by kernel_rfl) (by kernel_rfl) (by kernel_rfl) (by kernel_rfl) (fun _ _ _ h => h) hx8 (Or.inl ⟨by rfl, ?yt20⟩) ?rt20
  case yt20 => (intro w' hSw; (try dsimp only at hSw); go_simp; try with_reducible rfl)
  try simp only [Act.put, List.getElem_toArray, List.getElem_cons_zero, List.getElem_cons_succ, List.setIfInBounds_toArray, List.set_cons_zero, List.set_cons_succ]
  have KG8 := Lib.hid (KG7.out.belowS hb78)
  have HTJ8 := Lib.hid (HTJ.out.trans (Turn.of_below hb78))
  obtain ⟨hrm2, hset⟩ := HLR.out
  have hrr := HRM.out j m hrm2
  have c2 : w8.cell? ⟨gm, j * 4 + 2, none⟩ = some (.int .i64 m.th.lo) := (KG8.out.cell _).trans (hrr 2 (by omega))
  have c3' : w8.cell? ⟨gm, j * 4 + 3, none⟩ = some (.int .i64 m.th.hi) := (KG8.out.cell _).trans (hrr 3 (by omega))
  have z2 := KG8.out.frozen (j * 4 + 2)
  have z3 := KG8.out.frozen (j * 4 + 3)
  have lg := KG8.out.lt
  obtain ⟨N, hN⟩ : ∃ N, lessS m.th t = N := ⟨_, rfl⟩
  rw [hN]
  have HNN := Lib.hid hN
  have HRR := Lib.hid (rowAt_set HRM.out hrm2 N)
  rw [hN] at hset
  have HSET := Lib.hid hset
  clear hx hx8 hb8 hb78 hrm2 hset hrr hN
  refine E_step (i := 13) (o := _) (by kernel_rfl) rfl (fun K hK => ?_)
  go_simp
  refine hK.out _ _ (fun h => absurd rfl h) ?_
  clear hK K
  try simp only [Act.put, List.getElem_toArray, List.getElem_cons_zero, List.getElem_cons_succ, List.setIfInBounds_toArray, List.set_cons_zero, List.set_cons_succ]
  refine E_done (by kernel_rfl) ?_ _
  have kf : Blk ((w8.setCell ⟨gm, j * 4 + 2, none⟩ (.int .i64 N.lo)).setCell ⟨gm, j * 4 + 3, none⟩ (.int .i64 N.hi)) gm ((cur.setIfInBounds (j * 4 + 2) (.int .i64 N.lo)).setIfInBounds (j * 4 + 3) (.int .i64 N.hi)) 61 := (KG8.out.set _ _).set _ _
  have ht : Turn (fun k => k = gm) w8 ((w8.setCell ⟨gm, j * 4 + 2, none⟩ (.int .i64 N.lo)).setCell ⟨gm, j * 4 + 3, none⟩ (.int .i64 N.hi)) := ((Turn.of_below (X := fun k => k = gm) (Below.refl _ w8)).setCell (B := gm) rfl _ _).setCell (B := gm) rfl _ _
  generalize ((w8.setCell ⟨gm, j * 4 + 2, none⟩ (.int .i64 N.lo)).setCell ⟨gm, j * 4 + 3, none⟩ (.int .i64 N.hi)) = w9 at *
  have HTJ9 := Lib.hid (HTJ8.out.trans (ht.mono (fun k _ e => by rw [show k = gm from e]; exact HGW.out)))
  have HMK9 := Lib.hid (show OwnMarks w9 n (some ⟨gm, 0, none⟩) c3 ((S.ms.take (j + 1)).map (lessK t) ++ S.ms.drop (j + 1)) from
    .inr ⟨gm, _, rfl, HGW.out.1, by have := HLJ.out; have := HC3.out.1; simp; omega, HC3.out.2, kf, by rw [← HSET.out]; exact HRR.out⟩)
  clear c2 c3' z2 z3 lg kf ht
  go_wp2_with fail
  exact ⟨⟨j + 1, by have := HLJ.out; omega, rfl, HMK9.out, HTJ9.out⟩, by have := HLJ.out; simp [intOf]; omega⟩
end Go.Proofs.YtoigihmgjacbjaaDoor
