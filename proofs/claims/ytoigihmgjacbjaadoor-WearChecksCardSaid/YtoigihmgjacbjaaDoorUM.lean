/- thatchref07.Bounds: of any skin and point. No condition. -/
import Derived.Test.YtoigihmgjacbjaaDoorUK
import Derived.Test.YtoigihmgjacbjaaDoorUL
set_option linter.unusedSimpArgs false
namespace Go.Proofs.YtoigihmgjacbjaaDoor
open Go.RowKit

set_option maxRecDepth 100000 in
set_option maxHeartbeats 8000000 in
theorem refBoundsOf_any (S : Skn) (p : Pnt) (w : World) (hS : IsSkn w S) :
    Calls Tryd.prog 22 #[.agg #[.slice S.pa S.pts.length S.pc, .slice S.ha S.hs.length S.hc, .int .i64 S.steep, .int .i64 S.th.lo, .int .i64 S.th.hi, .slice S.ma S.ms.length S.mc], .agg #[.int .i64 p.x, .int .i64 p.y]] w fun e w' => e = .returned (.tuple #[.agg #[.int .i64 (endB (pointE S p) (boundM S p)).lo, .int .i64 (endB (pointE S p) (boundM S p)).hi], .int .i64 (pointE S p)]) ∧ Below w.heap.size w w' := by
  have k1 := ((Blk.new w 30 #[.slice S.pa S.pts.length S.pc, .slice S.ha S.hs.length S.hc, .int .i64 S.steep, .int .i64 S.th.lo, .int .i64 S.th.hi, .slice S.ma S.ms.length S.mc]).alloc (.cells #[.int .i64 p.x, .int .i64 p.y] 45)).alloc (.cells #[.int .i64 0, .int .i64 0] 27)
  have k2 := (Blk.new (w.alloc (.cells #[.slice S.pa S.pts.length S.pc, .slice S.ha S.hs.length S.hc, .int .i64 S.steep, .int .i64 S.th.lo, .int .i64 S.th.hi, .slice S.ma S.ms.length S.mc] 30)) 45 #[.int .i64 p.x, .int .i64 p.y]).alloc (.cells #[.int .i64 0, .int .i64 0] 27)
  have k3 := Blk.new ((w.alloc (.cells #[.slice S.pa S.pts.length S.pc, .slice S.ha S.hs.length S.hc, .int .i64 S.steep, .int .i64 S.th.lo, .int .i64 S.th.hi, .slice S.ma S.ms.length S.mc] 30)).alloc (.cells #[.int .i64 p.x, .int .i64 p.y] 45)) 27 #[.int .i64 0, .int .i64 0]
  rw [World.size_alloc] at k2
  rw [World.size_alloc, World.size_alloc] at k3
  have hb1 : Below w.heap.size w (((w.alloc (.cells #[.slice S.pa S.pts.length S.pc, .slice S.ha S.hs.length S.hc, .int .i64 S.steep, .int .i64 S.th.lo, .int .i64 S.th.hi, .slice S.ma S.ms.length S.mc] 30)).alloc (.cells #[.int .i64 p.x, .int .i64 p.y] 45)).alloc (.cells #[.int .i64 0, .int .i64 0] 27)) := (((Below.refl _ w).alloc (Nat.le_refl _) _).alloc (by simp) _).alloc (by simp; omega) _
  have HS := Lib.hid hS
  clear hS
  go_enter Tryd.func22, Tryd.ntmps22
  go_upto_region 1 with fail
  generalize (((w.alloc (.cells #[.slice S.pa S.pts.length S.pc, .slice S.ha S.hs.length S.hc, .int .i64 S.steep, .int .i64 S.th.lo, .int .i64 S.th.hi, .slice S.ma S.ms.length S.mc] 30)).alloc (.cells #[.int .i64 p.x, .int .i64 p.y] 45)).alloc (.cells #[.int .i64 0, .int .i64 0] 27)) = w1 at *
  have K11 := Lib.hid k1
  have K21 := Lib.hid k2
  have K31 := Lib.hid k3
  have HB1 := Lib.hid hb1
  clear k1 k2 k3 hb1
  obtain ⟨s0, s1, s2, s3, s4, s5⟩ := skn_cells (S := S) K11.out
  have l1 := K11.out.lt
  obtain ⟨p0, p1⟩ := pnt_cells K21.out
  have l2 := K21.out.lt
  obtain ⟨r0, r1⟩ := spn_cells (s := ⟨0, 0⟩) K31.out
  have z0 := K31.out.frozen 0
  have z1 := K31.out.frozen 1
  have l3 := K31.out.lt
  go_wp2_with fail
  refine (refCheck_any S _ (HS.out.below HB1.out)).mono ?_
  rintro e w2 ⟨rfl, hb⟩
  clear s0 s1 s2 s3 s4 s5 l1 p0 p1 l2 r0 r1 z0 z1 l3
  have K12 := Lib.hid (K11.out.belowS hb)
  have K22 := Lib.hid (K21.out.belowS hb)
  have K32 := Lib.hid (K31.out.belowS hb)
  have HB2 := Lib.hid (HB1.out.trans (hb.mono HB1.out.size))
  clear hb
  obtain ⟨E, hE⟩ : ∃ E, skinE S = E := ⟨_, rfl⟩
  rw [hE]
  obtain ⟨s0, s1, s2, s3, s4, s5⟩ := skn_cells (S := S) K12.out
  have l1 := K12.out.lt
  obtain ⟨p0, p1⟩ := pnt_cells K22.out
  have l2 := K22.out.lt
  obtain ⟨r0, r1⟩ := spn_cells (s := ⟨0, 0⟩) K32.out
  have z0 := K32.out.frozen 0
  have z1 := K32.out.frozen 1
  have l3 := K32.out.lt
  by_cases hz : E = 0
  rotate_left
  · have hpe : pointE S p = E := by unfold pointE; rw [hE, if_pos hz]
    have HV := Lib.hid (show (pointE S p = E ∧ endB (pointE S p) (boundM S p) = ⟨0, 0⟩) from ⟨hpe, by rw [hpe]; unfold endB; rw [if_neg hz]⟩)
    have hzb : (E == 0) = false := by rw [beq_eq_false_iff_ne]; exact hz
    have hzn : (E != 0) = true := by simp [hz]
    clear hE hpe
    go_wp2_with fail
    have kf := (K32.out.set 0 (.int .i64 0)).set 1 (.int .i64 0)
    have hbf := (HB2.out.setCell (p := ⟨w.heap.size + 1 + 1, 0, none⟩) (by show w.heap.size ≤ w.heap.size + 1 + 1; omega) (.int .i64 0)).setCell (p := ⟨w.heap.size + 1 + 1, 1, none⟩) (by show w.heap.size ≤ w.heap.size + 1 + 1; omega) (.int .i64 0)
    obtain ⟨x0, x1⟩ := spn_cells (s := ⟨0, 0⟩) kf
    generalize (w2.setCell ⟨w.heap.size + 1 + 1, 0, none⟩ (.int .i64 0)).setCell ⟨w.heap.size + 1 + 1, 1, none⟩ (.int .i64 0) = wf at *
    exact bodyPost_ret (v := .tuple #[.agg #[.int .i64 0, .int .i64 0], .int .i64 E]) (by simp [results, Tryd.results22, go_sem, x0, x1]) rfl ⟨by rw [HV.out.1, ← HV.out.1, HV.out.2, HV.out.1], hbf⟩
  subst hz
  have HG := Lib.hid (skinE_ok hE)
  have HAR := Lib.hid (skinE_area hE)
  have HPE := Lib.hid (show pointE S p = if inAreaM S.pts S.hs p = false then 7 else 0 by unfold pointE; rw [hE, if_neg (by decide)])
  clear hE
  go_wp2_with fail
  refine (refOn_any S.pa S.pc S.ha S.hc S.pts S.hs p _ (HS.out.below HB2.out).pts (by have := HAR.out.1; omega) HAR.out.2 (HS.out.below HB2.out).hs).mono ?_
  rintro e w3 ⟨rfl, hb⟩
  clear s0 s1 s2 s3 s4 s5 l1 p0 p1 l2 r0 r1 z0 z1 l3
  have K13 := Lib.hid (K12.out.belowS hb)
  have K23 := Lib.hid (K22.out.belowS hb)
  have K33 := Lib.hid (K32.out.belowS hb)
  have HB3 := Lib.hid (HB2.out.trans (hb.mono HB2.out.size))
  clear hb
  obtain ⟨b, hb⟩ : ∃ b, inAreaM S.pts S.hs p = b := ⟨_, rfl⟩
  rw [hb]
  obtain ⟨s0, s1, s2, s3, s4, s5⟩ := skn_cells (S := S) K13.out
  have l1 := K13.out.lt
  obtain ⟨p0, p1⟩ := pnt_cells K23.out
  have l2 := K23.out.lt
  obtain ⟨r0, r1⟩ := spn_cells (s := ⟨0, 0⟩) K33.out
  have z0 := K33.out.frozen 0
  have z1 := K33.out.frozen 1
  have l3 := K33.out.lt
  cases b with
  | false =>
    have hpe : pointE S p = 7 := HPE.out.trans (if_pos hb)
    have HV := Lib.hid (show (pointE S p = 7 ∧ endB (pointE S p) (boundM S p) = ⟨0, 0⟩) from ⟨hpe, by rw [hpe]; rfl⟩)
    clear hb hpe
    go_wp2_with fail
    have kf := (K33.out.set 0 (.int .i64 0)).set 1 (.int .i64 0)
    have hbf := (HB3.out.setCell (p := ⟨w.heap.size + 1 + 1, 0, none⟩) (by show w.heap.size ≤ w.heap.size + 1 + 1; omega) (.int .i64 0)).setCell (p := ⟨w.heap.size + 1 + 1, 1, none⟩) (by show w.heap.size ≤ w.heap.size + 1 + 1; omega) (.int .i64 0)
    obtain ⟨x0, x1⟩ := spn_cells (s := ⟨0, 0⟩) kf
    generalize (w3.setCell ⟨w.heap.size + 1 + 1, 0, none⟩ (.int .i64 0)).setCell ⟨w.heap.size + 1 + 1, 1, none⟩ (.int .i64 0) = wf at *
    exact bodyPost_ret (v := .tuple #[.agg #[.int .i64 0, .int .i64 0], .int .i64 7]) (by simp [results, Tryd.results22, go_sem, x0, x1]) rfl ⟨by rw [HV.out.2, HV.out.1], hbf⟩
  | true =>
  have hpe : pointE S p = 0 := HPE.out.trans (if_neg (by rw [hb]; decide))
  have HV := Lib.hid (show (pointE S p = 0 ∧ endB (pointE S p) (boundM S p) = ⟨loF S.steep p S.th.lo S.ms, hiF S.steep p S.th.hi S.ms⟩) from ⟨hpe, by rw [hpe]; exact (bound_good HG.out p).1⟩)
  have HP := Lib.hid (inArea_point hb)
  clear hb hpe
  go_wp2_with fail
  refine (refBounds_any S p _ (HS.out.below HB3.out) HG.out.steep (fun m hm => (HG.out.marks m hm).1) HP.out).mono ?_
  rintro e w4 ⟨rfl, hb⟩
  clear s0 s1 s2 s3 s4 s5 l1 p0 p1 l2 r0 r1 z0 z1 l3
  have K14 := Lib.hid (K13.out.belowS hb)
  have K24 := Lib.hid (K23.out.belowS hb)
  have K34 := Lib.hid (K33.out.belowS hb)
  have HB4 := Lib.hid (HB3.out.trans (hb.mono HB3.out.size))
  clear hb
  obtain ⟨U, hU⟩ : ∃ U : Spn, (⟨loF S.steep p S.th.lo S.ms, hiF S.steep p S.th.hi S.ms⟩ : Spn) = U := ⟨_, rfl⟩
  have e1 : loF S.steep p S.th.lo S.ms = U.lo := by rw [← hU]
  have e2 : hiF S.steep p S.th.hi S.ms = U.hi := by rw [← hU]
  rw [e1, e2]
  have HU := Lib.hid hU
  clear hU e1 e2
  obtain ⟨s0, s1, s2, s3, s4, s5⟩ := skn_cells (S := S) K14.out
  have l1 := K14.out.lt
  obtain ⟨p0, p1⟩ := pnt_cells K24.out
  have l2 := K24.out.lt
  obtain ⟨r0, r1⟩ := spn_cells (s := ⟨0, 0⟩) K34.out
  have z0 := K34.out.frozen 0
  have z1 := K34.out.frozen 1
  have l3 := K34.out.lt
  go_wp2_with fail
  have kf := (K34.out.set 0 (.int .i64 U.lo)).set 1 (.int .i64 U.hi)
  have hbf := (HB4.out.setCell (p := ⟨w.heap.size + 1 + 1, 0, none⟩) (by show w.heap.size ≤ w.heap.size + 1 + 1; omega) (.int .i64 U.lo)).setCell (p := ⟨w.heap.size + 1 + 1, 1, none⟩) (by show w.heap.size ≤ w.heap.size + 1 + 1; omega) (.int .i64 U.hi)
  obtain ⟨x0, x1⟩ := spn_cells (s := ⟨U.lo, U.hi⟩) kf
  generalize (w4.setCell ⟨w.heap.size + 1 + 1, 0, none⟩ (.int .i64 U.lo)).setCell ⟨w.heap.size + 1 + 1, 1, none⟩ (.int .i64 U.hi) = wf at *
  exact bodyPost_ret (v := .tuple #[.agg #[.int .i64 U.lo, .int .i64 U.hi], .int .i64 0]) (by simp [results, Tryd.results22, go_sem, x0, x1]) rfl ⟨by rw [HV.out.2, HV.out.1, HU.out], hbf⟩
end Go.Proofs.YtoigihmgjacbjaaDoor
