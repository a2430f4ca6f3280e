/- thatchref07.Probe: the skin behind a probe, or the first error. No condition. -/
import Derived.Test.YtoigihmgjacbjaaDoorUQ
import Derived.Test.YtoigihmgjacbjaaDoorUR
set_option linter.unusedSimpArgs false
namespace Go.Proofs.YtoigihmgjacbjaaDoor
open Go.RowKit

theorem addr_zeroU (b j : Nat) : (⟨b, 0, none⟩ : Addr).add j = ⟨b, j, none⟩ := by unfold Addr.add; split <;> simp_all
theorem own_turnM {X : Nat → Prop} {base size n : Nat} {t : TypeId} {v : Value} {xs : List Value} {w w' : World} (h : w.ownsRow base t size v n xs) (ht : Turn X w w') (hx : ∀ k, v.ownBlock = some k → ¬ X k) : w'.ownsRow base t size v n xs := by
  refine ⟨h.1, ?_⟩
  rcases h.2 with h | ⟨g, cap, cur, hv, h1, hg, h2⟩
  · exact .inl h
  · exact .inr ⟨g, cap, cur, hv, h1, (ht.block g (Array.getElem?_eq_some_iff.1 hg).1 (hx g (by rw [hv]; rfl))).trans hg, h2⟩
theorem own_append {w : World} {base g cap : Nat} {L : List Mrk} {m : Mrk} (h : w.ownsRow base 61 4 (.slice (some ⟨g, 0, none⟩) (L.length + 1) cap) (L.length + 1) (L.flatMap mrkL ++ mrkL m)) : w.ownsRow base 61 4 (.slice (some ⟨g, 0, none⟩) (L ++ [m]).length cap) (L ++ [m]).length ((L ++ [m]).flatMap mrkL) := by
  simpa [List.flatMap_append] using h

set_option maxRecDepth 100000 in
set_option maxHeartbeats 16000000 in
theorem refProbe_any (S : Skn) (p : Pnt) (r n : Int) (w : World) (hS : IsSkn w S) :
    Calls Tryd.prog 24 #[.agg #[.slice S.pa S.pts.length S.pc, .slice S.ha S.hs.length S.hc, .int .i64 S.steep, .int .i64 S.th.lo, .int .i64 S.th.hi, .slice S.ma S.ms.length S.mc], .agg #[.int .i64 p.x, .int .i64 p.y], .int .i64 r, .int .i64 n] w (SkinSaid (probeE S p r n) (Probed ⟨p, saidM r n⟩ S) w) := by
  have k1 := ((Blk.new w 30 #[.slice S.pa S.pts.length S.pc, .slice S.ha S.hs.length S.hc, .int .i64 S.steep, .int .i64 S.th.lo, .int .i64 S.th.hi, .slice S.ma S.ms.length S.mc]).alloc (.cells #[.int .i64 p.x, .int .i64 p.y] 45)).alloc (.cells #[.slice none 0 0, .slice none 0 0, .int .i64 0, .int .i64 0, .int .i64 0, .slice none 0 0] 30)
  have k2 := (Blk.new (w.alloc (.cells #[.slice S.pa S.pts.length S.pc, .slice S.ha S.hs.length S.hc, .int .i64 S.steep, .int .i64 S.th.lo, .int .i64 S.th.hi, .slice S.ma S.ms.length S.mc] 30)) 45 #[.int .i64 p.x, .int .i64 p.y]).alloc (.cells #[.slice none 0 0, .slice none 0 0, .int .i64 0, .int .i64 0, .int .i64 0, .slice none 0 0] 30)
  have k3 := Blk.new ((w.alloc (.cells #[.slice S.pa S.pts.length S.pc, .slice S.ha S.hs.length S.hc, .int .i64 S.steep, .int .i64 S.th.lo, .int .i64 S.th.hi, .slice S.ma S.ms.length S.mc] 30)).alloc (.cells #[.int .i64 p.x, .int .i64 p.y] 45)) 30 #[.slice none 0 0, .slice none 0 0, .int .i64 0, .int .i64 0, .int .i64 0, .slice none 0 0]
  rw [World.size_alloc] at k2
  rw [World.size_alloc, World.size_alloc] at k3
  have hb1 : Below w.heap.size w (((w.alloc (.cells #[.slice S.pa S.pts.length S.pc, .slice S.ha S.hs.length S.hc, .int .i64 S.steep, .int .i64 S.th.lo, .int .i64 S.th.hi, .slice S.ma S.ms.length S.mc] 30)).alloc (.cells #[.int .i64 p.x, .int .i64 p.y] 45)).alloc (.cells #[.slice none 0 0, .slice none 0 0, .int .i64 0, .int .i64 0, .int .i64 0, .slice none 0 0] 30)) := (((Below.refl _ w).alloc (Nat.le_refl _) _).alloc (by simp) _).alloc (by simp; omega) _
  have HS := Lib.hid hS
  clear hS
  go_enter Tryd.func24, Tryd.ntmps24
  go_upto_region 1 with fail
  generalize (((w.alloc (.cells #[.slice S.pa S.pts.length S.pc, .slice S.ha S.hs.length S.hc, .int .i64 S.steep, .int .i64 S.th.lo, .int .i64 S.th.hi, .slice S.ma S.ms.length S.mc] 30)).alloc (.cells #[.int .i64 p.x, .int .i64 p.y] 45)).alloc (.cells #[.slice none 0 0, .slice none 0 0, .int .i64 0, .int .i64 0, .int .i64 0, .slice none 0 0] 30)) = w1 at *
  have K11 := Lib.hid k1
  have K21 := Lib.hid k2
  have K31 := Lib.hid k3
  have HB1 := Lib.hid hb1
  clear k1 k2 k3 hb1
  obtain ⟨s0, s1, s2, s3, s4, s5⟩ := (show w1.cell? ⟨w.heap.size, 0, none⟩ = some (.slice S.pa S.pts.length S.pc) ∧ w1.cell? ⟨w.heap.size, 1, none⟩ = some (.slice S.ha S.hs.length S.hc) ∧ w1.cell? ⟨w.heap.size, 2, none⟩ = some (.int .i64 S.steep) ∧ w1.cell? ⟨w.heap.size, 3, none⟩ = some (.int .i64 S.th.lo) ∧ w1.cell? ⟨w.heap.size, 4, none⟩ = some (.int .i64 S.th.hi) ∧ w1.cell? ⟨w.heap.size, 5, none⟩ = some (.slice S.ma S.ms.length S.mc) from ⟨K11.out.cell 0, K11.out.cell 1, K11.out.cell 2, K11.out.cell 3, K11.out.cell 4, K11.out.cell 5⟩)
  have l1 := K11.out.lt
  obtain ⟨p0, p1⟩ := pnt_cells K21.out
  have l2 := K21.out.lt
  go_wp2_with fail
  refine (refCheck_any S _ (HS.out.below HB1.out)).mono ?_
  rintro e w2 ⟨rfl, hb⟩
  clear s0 s1 s2 s3 s4 s5 l1 p0 p1 l2
  have K12 := Lib.hid (K11.out.belowS hb)
  have K22 := Lib.hid (K21.out.belowS hb)
  have K32 := Lib.hid (K31.out.belowS hb)
  have HB2 := Lib.hid (HB1.out.trans (hb.mono HB1.out.size))
  clear hb K11 K21 K31
  obtain ⟨E, hE⟩ : ∃ E, skinE S = E := ⟨_, rfl⟩
  rw [hE]
  obtain ⟨s0, s1, s2, s3, s4, s5⟩ := (show w2.cell? ⟨w.heap.size, 0, none⟩ = some (.slice S.pa S.pts.length S.pc) ∧ w2.cell? ⟨w.heap.size, 1, none⟩ = some (.slice S.ha S.hs.length S.hc) ∧ w2.cell? ⟨w.heap.size, 2, none⟩ = some (.int .i64 S.steep) ∧ w2.cell? ⟨w.heap.size, 3, none⟩ = some (.int .i64 S.th.lo) ∧ w2.cell? ⟨w.heap.size, 4, none⟩ = some (.int .i64 S.th.hi) ∧ w2.cell? ⟨w.heap.size, 5, none⟩ = some (.slice S.ma S.ms.length S.mc) from ⟨K12.out.cell 0, K12.out.cell 1, K12.out.cell 2, K12.out.cell 3, K12.out.cell 4, K12.out.cell 5⟩)
  have l1 := K12.out.lt
  obtain ⟨p0, p1⟩ := pnt_cells K22.out
  have l2 := K22.out.lt
  by_cases hz : E = 0
  rotate_left
  · have HV := Lib.hid (show probeE S p r n = E by
      have hpe : pointE S p = E := by unfold pointE; rw [hE, if_pos hz]
      unfold probeE; rw [hpe, if_pos hz])
    have HN := Lib.hid (show E ≠ 0 from hz)
    have hzb : (E == 0) = false := by rw [beq_eq_false_iff_ne]; exact hz
    have hzn : (E != 0) = true := by simp [hz]
    clear hE
    obtain ⟨r0, r1, r2, r3, r4, r5⟩ := (show w2.cell? ⟨w.heap.size + 1 + 1, 0, none⟩ = some (.slice none 0 0) ∧ w2.cell? ⟨w.heap.size + 1 + 1, 1, none⟩ = some (.slice none 0 0) ∧ w2.cell? ⟨w.heap.size + 1 + 1, 2, none⟩ = some (.int .i64 0) ∧ w2.cell? ⟨w.heap.size + 1 + 1, 3, none⟩ = some (.int .i64 0) ∧ w2.cell? ⟨w.heap.size + 1 + 1, 4, none⟩ = some (.int .i64 0) ∧ w2.cell? ⟨w.heap.size + 1 + 1, 5, none⟩ = some (.slice none 0 0) from ⟨K32.out.cell 0, K32.out.cell 1, K32.out.cell 2, K32.out.cell 3, K32.out.cell 4, K32.out.cell 5⟩)
    have l3 := K32.out.lt
    have z0 := K32.out.frozen 0
    have z1 := K32.out.frozen 1
    have z2 := K32.out.frozen 2
    have z3 := K32.out.frozen 3
    have z4 := K32.out.frozen 4
    have z5 := K32.out.frozen 5
    go_wp2_with fail
    have kf : Blk ((((((w2.setCell ⟨w.heap.size + 1 + 1, 0, none⟩ (.slice none 0 0)).setCell ⟨w.heap.size + 1 + 1, 1, none⟩ (.slice none 0 0)).setCell ⟨w.heap.size + 1 + 1, 2, none⟩ (.int .i64 0)).setCell ⟨w.heap.size + 1 + 1, 3, none⟩ (.int .i64 0)).setCell ⟨w.heap.size + 1 + 1, 4, none⟩ (.int .i64 0)).setCell ⟨w.heap.size + 1 + 1, 5, none⟩ (.slice none 0 0)) (w.heap.size + 1 + 1) #[.slice none 0 0, .slice none 0 0, .int .i64 0, .int .i64 0, .int .i64 0, .slice none 0 0] 30 := ((((((K32.out.set 0 (.slice none 0 0)).set 1 (.slice none 0 0)).set 2 (.int .i64 0)).set 3 (.int .i64 0)).set 4 (.int .i64 0)).set 5 (.slice none 0 0))
    have ht : Turn (fun k => k = w.heap.size + 1 + 1) w2 ((((((w2.setCell ⟨w.heap.size + 1 + 1, 0, none⟩ (.slice none 0 0)).setCell ⟨w.heap.size + 1 + 1, 1, none⟩ (.slice none 0 0)).setCell ⟨w.heap.size + 1 + 1, 2, none⟩ (.int .i64 0)).setCell ⟨w.heap.size + 1 + 1, 3, none⟩ (.int .i64 0)).setCell ⟨w.heap.size + 1 + 1, 4, none⟩ (.int .i64 0)).setCell ⟨w.heap.size + 1 + 1, 5, none⟩ (.slice none 0 0)) := (((((((Turn.of_below (X := fun k => k = w.heap.size + 1 + 1) (Below.refl _ w2)).setCell (B := w.heap.size + 1 + 1) rfl 0 (.slice none 0 0)).setCell (B := w.heap.size + 1 + 1) rfl 1 (.slice none 0 0)).setCell (B := w.heap.size + 1 + 1) rfl 2 (.int .i64 0)).setCell (B := w.heap.size + 1 + 1) rfl 3 (.int .i64 0)).setCell (B := w.heap.size + 1 + 1) rfl 4 (.int .i64 0)).setCell (B := w.heap.size + 1 + 1) rfl 5 (.slice none 0 0))
    generalize ((((((w2.setCell ⟨w.heap.size + 1 + 1, 0, none⟩ (.slice none 0 0)).setCell ⟨w.heap.size + 1 + 1, 1, none⟩ (.slice none 0 0)).setCell ⟨w.heap.size + 1 + 1, 2, none⟩ (.int .i64 0)).setCell ⟨w.heap.size + 1 + 1, 3, none⟩ (.int .i64 0)).setCell ⟨w.heap.size + 1 + 1, 4, none⟩ (.int .i64 0)).setCell ⟨w.heap.size + 1 + 1, 5, none⟩ (.slice none 0 0)) = wf at *
    obtain ⟨g0, g1, g2, g3, g4, g5⟩ := (show wf.cell? ⟨w.heap.size + 1 + 1, 0, none⟩ = some (.slice none 0 0) ∧ wf.cell? ⟨w.heap.size + 1 + 1, 1, none⟩ = some (.slice none 0 0) ∧ wf.cell? ⟨w.heap.size + 1 + 1, 2, none⟩ = some (.int .i64 0) ∧ wf.cell? ⟨w.heap.size + 1 + 1, 3, none⟩ = some (.int .i64 0) ∧ wf.cell? ⟨w.heap.size + 1 + 1, 4, none⟩ = some (.int .i64 0) ∧ wf.cell? ⟨w.heap.size + 1 + 1, 5, none⟩ = some (.slice none 0 0) from ⟨kf.cell 0, kf.cell 1, kf.cell 2, kf.cell 3, kf.cell 4, kf.cell 5⟩)
    refine bodyPost_ret (v := .tuple #[.agg #[.slice none 0 0, .slice none 0 0, .int .i64 0, .int .i64 0, .int .i64 0, .slice none 0 0], .int .i64 E]) (by simp [results, Tryd.results24, go_sem, g0, g1, g2, g3, g4, g5]) rfl ?_
    rw [HV.out]
    exact ⟨⟨zeroSkn, rfl, zero_is _, zero_fresh _, fun h0 => absurd h0 HN.out, fun _ => rfl⟩, HB2.out.trans (ht.below HB2.out.size (fun k e => by rw [show k = w.heap.size + 1 + 1 from e]; omega))⟩
  subst hz
  have HX := Lib.hid hE
  have HG := Lib.hid (skinE_ok hE)
  have HAR := Lib.hid (skinE_area hE)
  have HPE := Lib.hid (show pointE S p = if inAreaM S.pts S.hs p = false then 7 else 0 by unfold pointE; rw [hE, if_neg (by decide)])
  clear hE
  go_wp2_with fail
  refine (refOn_any S.pa S.pc S.ha S.hc S.pts S.hs p _ (HS.out.below HB2.out).pts (by have := HAR.out.1; omega) HAR.out.2 (HS.out.below HB2.out).hs).mono ?_
  rintro e w3 ⟨rfl, hb⟩
  clear s0 s1 s2 s3 s4 s5 l1 p0 p1 l2
  have K13 := Lib.hid (K12.out.belowS hb)
  have K23 := Lib.hid (K22.out.belowS hb)
  have K33 := Lib.hid (K32.out.belowS hb)
  have HB3 := Lib.hid (HB2.out.trans (hb.mono HB2.out.size))
  clear hb K12 K22 K32
  obtain ⟨b, hb⟩ : ∃ b, inAreaM S.pts S.hs p = b := ⟨_, rfl⟩
  rw [hb]
  obtain ⟨s0, s1, s2, s3, s4, s5⟩ := (show w3.cell? ⟨w.heap.size, 0, none⟩ = some (.slice S.pa S.pts.length S.pc) ∧ w3.cell? ⟨w.heap.size, 1, none⟩ = some (.slice S.ha S.hs.length S.hc) ∧ w3.cell? ⟨w.heap.size, 2, none⟩ = some (.int .i64 S.steep) ∧ w3.cell? ⟨w.heap.size, 3, none⟩ = some (.int .i64 S.th.lo) ∧ w3.cell? ⟨w.heap.size, 4, none⟩ = some (.int .i64 S.th.hi) ∧ w3.cell? ⟨w.heap.size, 5, none⟩ = some (.slice S.ma S.ms.length S.mc) from ⟨K13.out.cell 0, K13.out.cell 1, K13.out.cell 2, K13.out.cell 3, K13.out.cell 4, K13.out.cell 5⟩)
  have l1 := K13.out.lt
  obtain ⟨p0, p1⟩ := pnt_cells K23.out
  have l2 := K23.out.lt
  cases b with
  | false =>
    have HV := Lib.hid (show probeE S p r n = 7 by
      have hpe : pointE S p = 7 := HPE.out.trans (if_pos hb)
      unfold probeE; rw [hpe, if_pos (by decide)])
    have HN := Lib.hid (show (7 : Int) ≠ 0 by decide)
    clear hb
    obtain ⟨r0, r1, r2, r3, r4, r5⟩ := (show w3.cell? ⟨w.heap.size + 1 + 1, 0, none⟩ = some (.slice none 0 0) ∧ w3.cell? ⟨w.heap.size + 1 + 1, 1, none⟩ = some (.slice none 0 0) ∧ w3.cell? ⟨w.heap.size + 1 + 1, 2, none⟩ = some (.int .i64 0) ∧ w3.cell? ⟨w.heap.size + 1 + 1, 3, none⟩ = some (.int .i64 0) ∧ w3.cell? ⟨w.heap.size + 1 + 1, 4, none⟩ = some (.int .i64 0) ∧ w3.cell? ⟨w.heap.size + 1 + 1, 5, none⟩ = some (.slice none 0 0) from ⟨K33.out.cell 0, K33.out.cell 1, K33.out.cell 2, K33.out.cell 3, K33.out.cell 4, K33.out.cell 5⟩)
    have l3 := K33.out.lt
    have z0 := K33.out.frozen 0
    have z1 := K33.out.frozen 1
    have z2 := K33.out.frozen 2
    have z3 := K33.out.frozen 3
    have z4 := K33.out.frozen 4
    have z5 := K33.out.frozen 5
    go_wp2_with fail
    have kf : Blk ((((((w3.setCell ⟨w.heap.size + 1 + 1, 0, none⟩ (.slice none 0 0)).setCell ⟨w.heap.size + 1 + 1, 1, none⟩ (.slice none 0 0)).setCell ⟨w.heap.size + 1 + 1, 2, none⟩ (.int .i64 0)).setCell ⟨w.heap.size + 1 + 1, 3, none⟩ (.int .i64 0)).setCell ⟨w.heap.size + 1 + 1, 4, none⟩ (.int .i64 0)).setCell ⟨w.heap.size + 1 + 1, 5, none⟩ (.slice none 0 0)) (w.heap.size + 1 + 1) #[.slice none 0 0, .slice none 0 0, .int .i64 0, .int .i64 0, .int .i64 0, .slice none 0 0] 30 := ((((((K33.out.set 0 (.slice none 0 0)).set 1 (.slice none 0 0)).set 2 (.int .i64 0)).set 3 (.int .i64 0)).set 4 (.int .i64 0)).set 5 (.slice none 0 0))
    have ht : Turn (fun k => k = w.heap.size + 1 + 1) w3 ((((((w3.setCell ⟨w.heap.size + 1 + 1, 0, none⟩ (.slice none 0 0)).setCell ⟨w.heap.size + 1 + 1, 1, none⟩ (.slice none 0 0)).setCell ⟨w.heap.size + 1 + 1, 2, none⟩ (.int .i64 0)).setCell ⟨w.heap.size + 1 + 1, 3, none⟩ (.int .i64 0)).setCell ⟨w.heap.size + 1 + 1, 4, none⟩ (.int .i64 0)).setCell ⟨w.heap.size + 1 + 1, 5, none⟩ (.slice none 0 0)) := (((((((Turn.of_below (X := fun k => k = w.heap.size + 1 + 1) (Below.refl _ w3)).setCell (B := w.heap.size + 1 + 1) rfl 0 (.slice none 0 0)).setCell (B := w.heap.size + 1 + 1) rfl 1 (.slice none 0 0)).setCell (B := w.heap.size + 1 + 1) rfl 2 (.int .i64 0)).setCell (B := w.heap.size + 1 + 1) rfl 3 (.int .i64 0)).setCell (B := w.heap.size + 1 + 1) rfl 4 (.int .i64 0)).setCell (B := w.heap.size + 1 + 1) rfl 5 (.slice none 0 0))
    generalize ((((((w3.setCell ⟨w.heap.size + 1 + 1, 0, none⟩ (.slice none 0 0)).setCell ⟨w.heap.size + 1 + 1, 1, none⟩ (.slice none 0 0)).setCell ⟨w.heap.size + 1 + 1, 2, none⟩ (.int .i64 0)).setCell ⟨w.heap.size + 1 + 1, 3, none⟩ (.int .i64 0)).setCell ⟨w.heap.size + 1 + 1, 4, none⟩ (.int .i64 0)).setCell ⟨w.heap.size + 1 + 1, 5, none⟩ (.slice none 0 0)) = wf at *
    obtain ⟨g0, g1, g2, g3, g4, g5⟩ := (show wf.cell? ⟨w.heap.size + 1 + 1, 0, none⟩ = some (.slice none 0 0) ∧ wf.cell? ⟨w.heap.size + 1 + 1, 1, none⟩ = some (.slice none 0 0) ∧ wf.cell? ⟨w.heap.size + 1 + 1, 2, none⟩ = some (.int .i64 0) ∧ wf.cell? ⟨w.heap.size + 1 + 1, 3, none⟩ = some (.int .i64 0) ∧ wf.cell? ⟨w.heap.size + 1 + 1, 4, none⟩ = some (.int .i64 0) ∧ wf.cell? ⟨w.heap.size + 1 + 1, 5, none⟩ = some (.slice none 0 0) from ⟨kf.cell 0, kf.cell 1, kf.cell 2, kf.cell 3, kf.cell 4, kf.cell 5⟩)
    refine bodyPost_ret (v := .tuple #[.agg #[.slice none 0 0, .slice none 0 0, .int .i64 0, .int .i64 0, .int .i64 0, .slice none 0 0], .int .i64 7]) (by simp [results, Tryd.results24, go_sem, g0, g1, g2, g3, g4, g5]) rfl ?_
    rw [HV.out]
    exact ⟨⟨zeroSkn, rfl, zero_is _, zero_fresh _, fun h0 => absurd h0 HN.out, fun _ => rfl⟩, HB3.out.trans (ht.below HB3.out.size (fun k e => by rw [show k = w.heap.size + 1 + 1 from e]; omega))⟩
  | true =>
  have HPO := Lib.hid (show pointE S p = 0 from HPE.out.trans (if_neg (by rw [hb]; decide)))
  have HVV := Lib.hid (show probeE S p r n = if (isFromB r 0 2000 && isFromB n 0 2000) = false then 1 else probedE S ⟨p, saidM r n⟩ by unfold probeE; rw [if_neg (by rw [HPO.out]; decide)])
  clear hb
  go_wp2_with fail
  refine (refIn_any _ _ _ _).mono ?_
  rintro e w4 ⟨rfl, rfl⟩
  obtain ⟨t1, ht1⟩ : ∃ t1, isFromB r 0 2000 = t1 := ⟨_, rfl⟩
  have HT1 := Lib.hid ht1
  rw [ht1]
  clear ht1
  cases t1 with
  | false =>
    have HV := Lib.hid (show probeE S p r n = 1 by rw [HVV.out, if_pos (by rw [HT1.out]; rfl)])
    have HN := Lib.hid (show (1 : Int) ≠ 0 by decide)
    obtain ⟨r0, r1, r2, r3, r4, r5⟩ := (show w3.cell? ⟨w.heap.size + 1 + 1, 0, none⟩ = some (.slice none 0 0) ∧ w3.cell? ⟨w.heap.size + 1 + 1, 1, none⟩ = some (.slice none 0 0) ∧ w3.cell? ⟨w.heap.size + 1 + 1, 2, none⟩ = some (.int .i64 0) ∧ w3.cell? ⟨w.heap.size + 1 + 1, 3, none⟩ = some (.int .i64 0) ∧ w3.cell? ⟨w.heap.size + 1 + 1, 4, none⟩ = some (.int .i64 0) ∧ w3.cell? ⟨w.heap.size + 1 + 1, 5, none⟩ = some (.slice none 0 0) from ⟨K33.out.cell 0, K33.out.cell 1, K33.out.cell 2, K33.out.cell 3, K33.out.cell 4, K33.out.cell 5⟩)
    have l3 := K33.out.lt
    have z0 := K33.out.frozen 0
    have z1 := K33.out.frozen 1
    have z2 := K33.out.frozen 2
    have z3 := K33.out.frozen 3
    have z4 := K33.out.frozen 4
    have z5 := K33.out.frozen 5
    go_wp2_with fail
    have kf : Blk ((((((w3.setCell ⟨w.heap.size + 1 + 1, 0, none⟩ (.slice none 0 0)).setCell ⟨w.heap.size + 1 + 1, 1, none⟩ (.slice none 0 0)).setCell ⟨w.heap.size + 1 + 1, 2, none⟩ (.int .i64 0)).setCell ⟨w.heap.size + 1 + 1, 3, none⟩ (.int .i64 0)).setCell ⟨w.heap.size + 1 + 1, 4, none⟩ (.int .i64 0)).setCell ⟨w.heap.size + 1 + 1, 5, none⟩ (.slice none 0 0)) (w.heap.size + 1 + 1) #[.slice none 0 0, .slice none 0 0, .int .i64 0, .int .i64 0, .int .i64 0, .slice none 0 0] 30 := ((((((K33.out.set 0 (.slice none 0 0)).set 1 (.slice none 0 0)).set 2 (.int .i64 0)).set 3 (.int .i64 0)).set 4 (.int .i64 0)).set 5 (.slice none 0 0))
    have ht : Turn (fun k => k = w.heap.size + 1 + 1) w3 ((((((w3.setCell ⟨w.heap.size + 1 + 1, 0, none⟩ (.slice none 0 0)).setCell ⟨w.heap.size + 1 + 1, 1, none⟩ (.slice none 0 0)).setCell ⟨w.heap.size + 1 + 1, 2, none⟩ (.int .i64 0)).setCell ⟨w.heap.size + 1 + 1, 3, none⟩ (.int .i64 0)).setCell ⟨w.heap.size + 1 + 1, 4, none⟩ (.int .i64 0)).setCell ⟨w.heap.size + 1 + 1, 5, none⟩ (.slice none 0 0)) := (((((((Turn.of_below (X := fun k => k = w.heap.size + 1 + 1) (Below.refl _ w3)).setCell (B := w.heap.size + 1 + 1) rfl 0 (.slice none 0 0)).setCell (B := w.heap.size + 1 + 1) rfl 1 (.slice none 0 0)).setCell (B := w.heap.size + 1 + 1) rfl 2 (.int .i64 0)).setCell (B := w.heap.size + 1 + 1) rfl 3 (.int .i64 0)).setCell (B := w.heap.size + 1 + 1) rfl 4 (.int .i64 0)).setCell (B := w.heap.size + 1 + 1) rfl 5 (.slice none 0 0))
    generalize ((((((w3.setCell ⟨w.heap.size + 1 + 1, 0, none⟩ (.slice none 0 0)).setCell ⟨w.heap.size + 1 + 1, 1, none⟩ (.slice none 0 0)).setCell ⟨w.heap.size + 1 + 1, 2, none⟩ (.int .i64 0)).setCell ⟨w.heap.size + 1 + 1, 3, none⟩ (.int .i64 0)).setCell ⟨w.heap.size + 1 + 1, 4, none⟩ (.int .i64 0)).setCell ⟨w.heap.size + 1 + 1, 5, none⟩ (.slice none 0 0)) = wf at *
    obtain ⟨g0, g1, g2, g3, g4, g5⟩ := (show wf.cell? ⟨w.heap.size + 1 + 1, 0, none⟩ = some (.slice none 0 0) ∧ wf.cell? ⟨w.heap.size + 1 + 1, 1, none⟩ = some (.slice none 0 0) ∧ wf.cell? ⟨w.heap.size + 1 + 1, 2, none⟩ = some (.int .i64 0) ∧ wf.cell? ⟨w.heap.size + 1 + 1, 3, none⟩ = some (.int .i64 0) ∧ wf.cell? ⟨w.heap.size + 1 + 1, 4, none⟩ = some (.int .i64 0) ∧ wf.cell? ⟨w.heap.size + 1 + 1, 5, none⟩ = some (.slice none 0 0) from ⟨kf.cell 0, kf.cell 1, kf.cell 2, kf.cell 3, kf.cell 4, kf.cell 5⟩)
    refine bodyPost_ret (v := .tuple #[.agg #[.slice none 0 0, .slice none 0 0, .int .i64 0, .int .i64 0, .int .i64 0, .slice none 0 0], .int .i64 1]) (by simp [results, Tryd.results24, go_sem, g0, g1, g2, g3, g4, g5]) rfl ?_
    rw [HV.out]
    exact ⟨⟨zeroSkn, rfl, zero_is _, zero_fresh _, fun h0 => absurd h0 HN.out, fun _ => rfl⟩, HB3.out.trans (ht.below HB3.out.size (fun k e => by rw [show k = w.heap.size + 1 + 1 from e]; omega))⟩
  | true =>
  go_wp2_with fail
  refine (refIn_any _ _ _ _).mono ?_
  rintro e w4 ⟨rfl, rfl⟩
  obtain ⟨t2, ht2⟩ : ∃ t2, isFromB n 0 2000 = t2 := ⟨_, rfl⟩
  have HT2 := Lib.hid ht2
  rw [ht2]
  clear ht2
  cases t2 with
  | false =>
    have HV := Lib.hid (show probeE S p r n = 1 by rw [HVV.out, if_pos (by rw [HT1.out, HT2.out]; rfl)])
    have HN := Lib.hid (show (1 : Int) ≠ 0 by decide)
    obtain ⟨r0, r1, r2, r3, r4, r5⟩ := (show w3.cell? ⟨w.heap.size + 1 + 1, 0, none⟩ = some (.slice none 0 0) ∧ w3.cell? ⟨w.heap.size + 1 + 1, 1, none⟩ = some (.slice none 0 0) ∧ w3.cell? ⟨w.heap.size + 1 + 1, 2, none⟩ = some (.int .i64 0) ∧ w3.cell? ⟨w.heap.size + 1 + 1, 3, none⟩ = some (.int .i64 0) ∧ w3.cell? ⟨w.heap.size + 1 + 1, 4, none⟩ = some (.int .i64 0) ∧ w3.cell? ⟨w.heap.size + 1 + 1, 5, none⟩ = some (.slice none 0 0) from ⟨K33.out.cell 0, K33.out.cell 1, K33.out.cell 2, K33.out.cell 3, K33.out.cell 4, K33.out.cell 5⟩)
    have l3 := K33.out.lt
    have z0 := K33.out.frozen 0
    have z1 := K33.out.frozen 1
    have z2 := K33.out.frozen 2
    have z3 := K33.out.frozen 3
    have z4 := K33.out.frozen 4
    have z5 := K33.out.frozen 5
    go_wp2_with fail
    have kf : Blk ((((((w3.setCell ⟨w.heap.size + 1 + 1, 0, none⟩ (.slice none 0 0)).setCell ⟨w.heap.size + 1 + 1, 1, none⟩ (.slice none 0 0)).setCell ⟨w.heap.size + 1 + 1, 2, none⟩ (.int .i64 0)).setCell ⟨w.heap.size + 1 + 1, 3, none⟩ (.int .i64 0)).setCell ⟨w.heap.size + 1 + 1, 4, none⟩ (.int .i64 0)).setCell ⟨w.heap.size + 1 + 1, 5, none⟩ (.slice none 0 0)) (w.heap.size + 1 + 1) #[.slice none 0 0, .slice none 0 0, .int .i64 0, .int .i64 0, .int .i64 0, .slice none 0 0] 30 := ((((((K33.out.set 0 (.slice none 0 0)).set 1 (.slice none 0 0)).set 2 (.int .i64 0)).set 3 (.int .i64 0)).set 4 (.int .i64 0)).set 5 (.slice none 0 0))
    have ht : Turn (fun k => k = w.heap.size + 1 + 1) w3 ((((((w3.setCell ⟨w.heap.size + 1 + 1, 0, none⟩ (.slice none 0 0)).setCell ⟨w.heap.size + 1 + 1, 1, none⟩ (.slice none 0 0)).setCell ⟨w.heap.size + 1 + 1, 2, none⟩ (.int .i64 0)).setCell ⟨w.heap.size + 1 + 1, 3, none⟩ (.int .i64 0)).setCell ⟨w.heap.size + 1 + 1, 4, none⟩ (.int .i64 0)).setCell ⟨w.heap.size + 1 + 1, 5, none⟩ (.slice none 0 0)) := (((((((Turn.of_below (X := fun k => k = w.heap.size + 1 + 1) (Below.refl _ w3)).setCell (B := w.heap.size + 1 + 1) rfl 0 (.slice none 0 0)).setCell (B := w.heap.size + 1 + 1) rfl 1 (.slice none 0 0)).setCell (B := w.heap.size + 1 + 1) rfl 2 (.int .i64 0)).setCell (B := w.heap.size + 1 + 1) rfl 3 (.int .i64 0)).setCell (B := w.heap.size + 1 + 1) rfl 4 (.int .i64 0)).setCell (B := w.heap.size + 1 + 1) rfl 5 (.slice none 0 0))
    generalize ((((((w3.setCell ⟨w.heap.size + 1 + 1, 0, none⟩ (.slice none 0 0)).setCell ⟨w.heap.size + 1 + 1, 1, none⟩ (.slice none 0 0)).setCell ⟨w.heap.size + 1 + 1, 2, none⟩ (.int .i64 0)).setCell ⟨w.heap.size + 1 + 1, 3, none⟩ (.int .i64 0)).setCell ⟨w.heap.size + 1 + 1, 4, none⟩ (.int .i64 0)).setCell ⟨w.heap.size + 1 + 1, 5, none⟩ (.slice none 0 0)) = wf at *
    obtain ⟨g0, g1, g2, g3, g4, g5⟩ := (show wf.cell? ⟨w.heap.size + 1 + 1, 0, none⟩ = some (.slice none 0 0) ∧ wf.cell? ⟨w.heap.size + 1 + 1, 1, none⟩ = some (.slice none 0 0) ∧ wf.cell? ⟨w.heap.size + 1 + 1, 2, none⟩ = some (.int .i64 0) ∧ wf.cell? ⟨w.heap.size + 1 + 1, 3, none⟩ = some (.int .i64 0) ∧ wf.cell? ⟨w.heap.size + 1 + 1, 4, none⟩ = some (.int .i64 0) ∧ wf.cell? ⟨w.heap.size + 1 + 1, 5, none⟩ = some (.slice none 0 0) from ⟨kf.cell 0, kf.cell 1, kf.cell 2, kf.cell 3, kf.cell 4, kf.cell 5⟩)
    refine bodyPost_ret (v := .tuple #[.agg #[.slice none 0 0, .slice none 0 0, .int .i64 0, .int .i64 0, .int .i64 0, .slice none 0 0], .int .i64 1]) (by simp [results, Tryd.results24, go_sem, g0, g1, g2, g3, g4, g5]) rfl ?_
    rw [HV.out]
    exact ⟨⟨zeroSkn, rfl, zero_is _, zero_fresh _, fun h0 => absurd h0 HN.out, fun _ => rfl⟩, HB3.out.trans (ht.below HB3.out.size (fun k e => by rw [show k = w.heap.size + 1 + 1 from e]; omega))⟩
  | true =>
  have HR := Lib.hid (show (0 ≤ r ∧ r ≤ 2000) ∧ 0 ≤ n ∧ n ≤ 2000 from ⟨by simpa [isFromB] using HT1.out, by simpa [isFromB] using HT2.out⟩)
  have hw1 : IntKind.i64.wrap (r - n) = r - n := by have := HR.out; rw [IntKind.wrap_i64]; omega
  have hw2 : IntKind.i64.wrap (r + n) = r + n := by have := HR.out; rw [IntKind.wrap_i64]; omega
  go_upto_region 10 with fail
  have HX1 := Lib.hid (said_in HR.out.1 HR.out.2)
  obtain ⟨X, hX⟩ : ∃ X, saidM r n = X := ⟨_, rfl⟩
  have e1 : max 0 (r - n) = X.lo := by rw [← hX, HX1.out.1]
  have e2 : min 2000 (r + n) = X.hi := by rw [← hX, HX1.out.1]
  rw [e1, e2]
  have HX3 := Lib.hid hX
  clear e1 e2 hX hw1 hw2
  have k4 := Blk.new w3 27 #[.int .i64 X.lo, .int .i64 X.hi]
  have hb4 : Below w3.heap.size w3 (w3.alloc (.cells #[.int .i64 X.lo, .int .i64 X.hi] 27)) := (Below.refl _ w3).alloc (Nat.le_refl _) _
  clear s0 s1 s2 s3 s4 s5 l1 p0 p1 l2
  generalize w3.alloc (.cells #[.int .i64 X.lo, .int .i64 X.hi] 27) = w4 at *
  have HW34 := Lib.hid (show w3.heap.size < w4.heap.size from k4.lt)
  have K44 := Lib.hid k4
  have K14 := Lib.hid (K13.out.belowS hb4)
  have K24 := Lib.hid (K23.out.belowS hb4)
  have K34 := Lib.hid (K33.out.belowS hb4)
  have HB4 := Lib.hid (HB3.out.trans (hb4.mono HB3.out.size))
  have HLT := Lib.hid (show w.heap.size + 1 + 1 < w3.heap.size ∧ w.heap.size + 1 + 1 < w4.heap.size ∧ w3.heap.size < w4.heap.size from ⟨K33.out.lt, by have := K33.out.lt; have := k4.lt; omega, k4.lt⟩)
  clear k4 hb4 K13 K23 K33
  obtain ⟨s0, s1, s2, s3, s4, s5⟩ := (show w4.cell? ⟨w.heap.size, 0, none⟩ = some (.slice S.pa S.pts.length S.pc) ∧ w4.cell? ⟨w.heap.size, 1, none⟩ = some (.slice S.ha S.hs.length S.hc) ∧ w4.cell? ⟨w.heap.size, 2, none⟩ = some (.int .i64 S.steep) ∧ w4.cell? ⟨w.heap.size, 3, none⟩ = some (.int .i64 S.th.lo) ∧ w4.cell? ⟨w.heap.size, 4, none⟩ = some (.int .i64 S.th.hi) ∧ w4.cell? ⟨w.heap.size, 5, none⟩ = some (.slice S.ma S.ms.length S.mc) from ⟨K14.out.cell 0, K14.out.cell 1, K14.out.cell 2, K14.out.cell 3, K14.out.cell 4, K14.out.cell 5⟩)
  have l1 := K14.out.lt
  obtain ⟨p0, p1⟩ := pnt_cells K24.out
  have l2 := K24.out.lt
  obtain ⟨x0, x1⟩ := spn_cells K44.out
  have l4 := K44.out.lt
  go_wp2_with fail
  refine (refTwin_any S _ (HS.out.below HB4.out) (by have := HAR.out.1; omega) (by have := areaE_few HG.out.area; omega) (by have := HG.out.few; omega)).mono ?_
  rintro e w5 ⟨⟨a1, a2, a3, c1, c2, c3, nb, rfl, hn, hfar, hp, hh, hmk, how, hnw⟩, hb⟩
  have HB5 := Lib.hid (HB4.out.trans (hb.mono HB4.out.size))
  have HN := Lib.hid (show w4.heap.size ≤ nb ∧ nb ≤ w5.heap.size from ⟨hn, hnw⟩)
  have HFAR := Lib.hid hfar
  have HP := Lib.hid hp
  have HH := Lib.hid hh
  have HMK := Lib.hid hmk.row
  have HOW := Lib.hid how
  clear s0 s1 s2 s3 s4 s5 l1 p0 p1 l2 x0 x1 l4
  have K15 := Lib.hid (K14.out.belowS hb)
  have K25 := Lib.hid (K24.out.belowS hb)
  have K35 := Lib.hid (K34.out.belowS hb)
  have K45 := Lib.hid (K44.out.belowS hb)
  clear hb hn hfar hp hh hmk how hnw K14 K24 K34 K44
  obtain ⟨s0, s1, s2, s3, s4, s5⟩ := (show w5.cell? ⟨w.heap.size, 0, none⟩ = some (.slice S.pa S.pts.length S.pc) ∧ w5.cell? ⟨w.heap.size, 1, none⟩ = some (.slice S.ha S.hs.length S.hc) ∧ w5.cell? ⟨w.heap.size, 2, none⟩ = some (.int .i64 S.steep) ∧ w5.cell? ⟨w.heap.size, 3, none⟩ = some (.int .i64 S.th.lo) ∧ w5.cell? ⟨w.heap.size, 4, none⟩ = some (.int .i64 S.th.hi) ∧ w5.cell? ⟨w.heap.size, 5, none⟩ = some (.slice S.ma S.ms.length S.mc) from ⟨K15.out.cell 0, K15.out.cell 1, K15.out.cell 2, K15.out.cell 3, K15.out.cell 4, K15.out.cell 5⟩)
  have l1 := K15.out.lt
  obtain ⟨p0, p1⟩ := pnt_cells K25.out
  have l2 := K25.out.lt
  obtain ⟨x0, x1⟩ := spn_cells K45.out
  have l4 := K45.out.lt
  have z0 := K15.out.frozen 0
  have z1 := K15.out.frozen 1
  have z2 := K15.out.frozen 2
  have z3 := K15.out.frozen 3
  have z4 := K15.out.frozen 4
  have z5 := K15.out.frozen 5
  go_upto_region 11 with fail
  have kf : Blk ((((((w5.setCell ⟨w.heap.size, 0, none⟩ (.slice a1 S.pts.length c1)).setCell ⟨w.heap.size, 1, none⟩ (.slice a2 S.hs.length c2)).setCell ⟨w.heap.size, 2, none⟩ (.int .i64 S.steep)).setCell ⟨w.heap.size, 3, none⟩ (.int .i64 S.th.lo)).setCell ⟨w.heap.size, 4, none⟩ (.int .i64 S.th.hi)).setCell ⟨w.heap.size, 5, none⟩ (.slice a3 S.ms.length c3)) (w.heap.size) #[.slice a1 S.pts.length c1, .slice a2 S.hs.length c2, .int .i64 S.steep, .int .i64 S.th.lo, .int .i64 S.th.hi, .slice a3 S.ms.length c3] 30 := ((((((K15.out.set 0 (.slice a1 S.pts.length c1)).set 1 (.slice a2 S.hs.length c2)).set 2 (.int .i64 S.steep)).set 3 (.int .i64 S.th.lo)).set 4 (.int .i64 S.th.hi)).set 5 (.slice a3 S.ms.length c3))
  have ht : Turn (fun k => k = w.heap.size) w5 ((((((w5.setCell ⟨w.heap.size, 0, none⟩ (.slice a1 S.pts.length c1)).setCell ⟨w.heap.size, 1, none⟩ (.slice a2 S.hs.length c2)).setCell ⟨w.heap.size, 2, none⟩ (.int .i64 S.steep)).setCell ⟨w.heap.size, 3, none⟩ (.int .i64 S.th.lo)).setCell ⟨w.heap.size, 4, none⟩ (.int .i64 S.th.hi)).setCell ⟨w.heap.size, 5, none⟩ (.slice a3 S.ms.length c3)) := (((((((Turn.of_below (X := fun k => k = w.heap.size) (Below.refl _ w5)).setCell (B := w.heap.size) rfl 0 (.slice a1 S.pts.length c1)).setCell (B := w.heap.size) rfl 1 (.slice a2 S.hs.length c2)).setCell (B := w.heap.size) rfl 2 (.int .i64 S.steep)).setCell (B := w.heap.size) rfl 3 (.int .i64 S.th.lo)).setCell (B := w.heap.size) rfl 4 (.int .i64 S.th.hi)).setCell (B := w.heap.size) rfl 5 (.slice a3 S.ms.length c3))
  generalize ((((((w5.setCell ⟨w.heap.size, 0, none⟩ (.slice a1 S.pts.length c1)).setCell ⟨w.heap.size, 1, none⟩ (.slice a2 S.hs.length c2)).setCell ⟨w.heap.size, 2, none⟩ (.int .i64 S.steep)).setCell ⟨w.heap.size, 3, none⟩ (.int .i64 S.th.lo)).setCell ⟨w.heap.size, 4, none⟩ (.int .i64 S.th.hi)).setCell ⟨w.heap.size, 5, none⟩ (.slice a3 S.ms.length c3)) = w6 at *
  have K16 := Lib.hid kf
  have K26 := Lib.hid (ht.blk K25.out (fun e => by have := (show w.heap.size + 1 = w.heap.size from e); omega))
  have K36 := Lib.hid (ht.blk K35.out (fun e => by have := (show w.heap.size + 1 + 1 = w.heap.size from e); omega))
  have K46 := Lib.hid (ht.blk K45.out (fun e => by have := (show w3.heap.size = w.heap.size from e); have := HLT.out; omega))
  have HB6 := Lib.hid (HB5.out.trans (ht.below HB5.out.size (fun k e => by rw [show k = w.heap.size from e]; exact Nat.le_refl _)))
  have HLT6 := Lib.hid (show w.heap.size + 1 + 1 < w6.heap.size from by have := K36.out.lt; omega)
  have hX1 : ∀ (x : Addr), a1 = some x ∨ a2 = some x → ¬ x.block = w.heap.size := fun x hx => by
    have := (HFAR.out x hx).1
    have := HLT.out
    omega
  have HP6 := Lib.hid (HP.out.turn ht (fun x hx => hX1 x (.inl hx)))
  have HH6 := Lib.hid (HH.out.turn ht (fun x hx => hX1 x (.inr hx)))
  have HMK6 := Lib.hid (HMK.out.turn ht (fun x hx => by have := (HOW.out x hx).1; have := HN.out.1; have := HLT.out; omega))
  clear s0 s1 s2 s3 s4 s5 l1 p0 p1 l2 x0 x1 l4 z0 z1 z2 z3 z4 z5 kf ht hX1
  clear K15 K25 K35 K45 HP HH HMK
  obtain ⟨s0, s1, s2, s3, s4, s5⟩ := (show w6.cell? ⟨w.heap.size, 0, none⟩ = some (.slice a1 S.pts.length c1) ∧ w6.cell? ⟨w.heap.size, 1, none⟩ = some (.slice a2 S.hs.length c2) ∧ w6.cell? ⟨w.heap.size, 2, none⟩ = some (.int .i64 S.steep) ∧ w6.cell? ⟨w.heap.size, 3, none⟩ = some (.int .i64 S.th.lo) ∧ w6.cell? ⟨w.heap.size, 4, none⟩ = some (.int .i64 S.th.hi) ∧ w6.cell? ⟨w.heap.size, 5, none⟩ = some (.slice a3 S.ms.length c3) from ⟨K16.out.cell 0, K16.out.cell 1, K16.out.cell 2, K16.out.cell 3, K16.out.cell 4, K16.out.cell 5⟩)
  have l1 := K16.out.lt
  obtain ⟨p0, p1⟩ := pnt_cells K26.out
  have l2 := K26.out.lt
  obtain ⟨x0, x1⟩ := spn_cells K46.out
  have l4 := K46.out.lt
  go_wp2_with fail
  go_loopw [12, 13, 14, 15] (fun s12 s13 s14 s15 wr => ∃ (j : Nat) (L : List Mrk) (D : Bool) (a : Option Addr) (c : Nat), j ≤ S.ms.length ∧ (L, D) = runP ⟨p, X⟩ (S.ms.take j) ∧ s14 = .int .i64 j ∧ s13 = .bool D ∧ s12 = .slice a L.length c ∧ wr.ownsRow w6.heap.size 61 4 (.slice a L.length c) L.length (L.flatMap mrkL) ∧ Below w6.heap.size w6 wr) (fun _ _ i _ _ => S.ms.length - (intOf i).toNat)
  case atStart =>
    refine ⟨0, [], false, none, 0, Nat.zero_le _, rfl, rfl, rfl, rfl, ?_, Below.refl _ _⟩
    exact World.ownsRow_nil _ _ _ _
  case round =>
  clear s0 s1 s2 s3 s4 s5 l1 p0 p1 l2 x0 x1 l4
  obtain ⟨j, L, D, a, c, hj, hF, rfl, rfl, rfl, how, hb7⟩ := hrel
  obtain ⟨w7, rfl⟩ : ∃ w7 : World, w7 = wr := ⟨_, rfl⟩
  have HB67 := Lib.hid hb7
  have HB7 := Lib.hid (HB6.out.trans (hb7.mono HB6.out.size))
  have K17 := Lib.hid (K16.out.belowS hb7)
  have K27 := Lib.hid (K26.out.belowS hb7)
  have K37 := Lib.hid (K36.out.belowS hb7)
  have K47 := Lib.hid (K46.out.belowS hb7)
  have HOW7 := Lib.hid how
  have HF7 := Lib.hid hF
  have HLL := Lib.hid (show L.length ≤ 1000 by
    have h1 := runP_len ⟨p, X⟩ (S.ms.take j) ([], false)
    have h2 : (S.ms.take j).length ≤ S.ms.length := by simp; omega
    have h3 := HG.out.few
    have h4 : (L, D) = (S.ms.take j).foldl (stepP ⟨p, X⟩) ([], false) := hF
    rw [← h4] at h1
    simp only [List.length_nil] at h1
    omega)
  obtain ⟨i0, hi, hz0, hz1, hz2⟩ := info_parts3 info_mrk
  clear hF how hb7
  obtain ⟨s0, s1, s2, s3, s4, s5⟩ := (show w7.cell? ⟨w.heap.size, 0, none⟩ = some (.slice a1 S.pts.length c1) ∧ w7.cell? ⟨w.heap.size, 1, none⟩ = some (.slice a2 S.hs.length c2) ∧ w7.cell? ⟨w.heap.size, 2, none⟩ = some (.int .i64 S.steep) ∧ w7.cell? ⟨w.heap.size, 3, none⟩ = some (.int .i64 S.th.lo) ∧ w7.cell? ⟨w.heap.size, 4, none⟩ = some (.int .i64 S.th.hi) ∧ w7.cell? ⟨w.heap.size, 5, none⟩ = some (.slice a3 S.ms.length c3) from ⟨K17.out.cell 0, K17.out.cell 1, K17.out.cell 2, K17.out.cell 3, K17.out.cell 4, K17.out.cell 5⟩)
  have l1 := K17.out.lt
  obtain ⟨p0, p1⟩ := pnt_cells K27.out
  have l2 := K27.out.lt
  obtain ⟨x0, x1⟩ := spn_cells K47.out
  have l4 := K47.out.lt
  by_cases hlj : j < S.ms.length
  rotate_left
  · obtain rfl : j = S.ms.length := by omega
    have hlj' : ¬ (S.ms.length : Int) < (S.ms.length : Int) := by omega
    have HE := Lib.hid (show endP ⟨p, X⟩ (L, D) = insR ⟨p, X⟩ S.ms by
      have h1 := runP_end ⟨p, X⟩ S.ms HG.out.ord
      have h2 := HF7.out
      rw [List.take_of_length_le (Nat.le_refl _)] at h2
      rw [h2, h1])
    clear hlj hj
    cases D with
    | true =>
      have HI := Lib.hid (show L = insR ⟨p, X⟩ S.ms from HE.out)
      obtain ⟨w9, rfl⟩ : ∃ w9 : World, w9 = w7 := ⟨_, rfl⟩
      obtain ⟨I, rfl⟩ : ∃ I : List Mrk, I = L := ⟨_, rfl⟩
      obtain ⟨b, rfl⟩ : ∃ b : Option Addr, b = a := ⟨_, rfl⟩
      obtain ⟨d, rfl⟩ : ∃ d : Nat, d = c := ⟨_, rfl⟩
      have HOW9 := HOW7
      have HB69 := HB67
      clear s0 s1 s2 s3 s4 s5 l1 p0 p1 l2 x0 x1 l4
      clear K17 K27 K37 K47 HB7 HOW7 HB67
      have HB9 := Lib.hid (HB6.out.trans (HB69.out.mono HB6.out.size))
      have K19 := Lib.hid (K16.out.belowS HB69.out)
      have K29 := Lib.hid (K26.out.belowS HB69.out)
      have K39 := Lib.hid (K36.out.belowS HB69.out)
      have K49 := Lib.hid (K46.out.belowS HB69.out)
      obtain ⟨s0, s1, s2, s3, s4, s5⟩ := (show w9.cell? ⟨w.heap.size, 0, none⟩ = some (.slice a1 S.pts.length c1) ∧ w9.cell? ⟨w.heap.size, 1, none⟩ = some (.slice a2 S.hs.length c2) ∧ w9.cell? ⟨w.heap.size, 2, none⟩ = some (.int .i64 S.steep) ∧ w9.cell? ⟨w.heap.size, 3, none⟩ = some (.int .i64 S.th.lo) ∧ w9.cell? ⟨w.heap.size, 4, none⟩ = some (.int .i64 S.th.hi) ∧ w9.cell? ⟨w.heap.size, 5, none⟩ = some (.slice a3 S.ms.length c3) from ⟨K19.out.cell 0, K19.out.cell 1, K19.out.cell 2, K19.out.cell 3, K19.out.cell 4, K19.out.cell 5⟩)
      have l1 := K19.out.lt
      obtain ⟨p0, p1⟩ := pnt_cells K29.out
      have l2 := K29.out.lt
      obtain ⟨x0, x1⟩ := spn_cells K49.out
      have l4 := K49.out.lt
      have z5 := K19.out.frozen 5
      go_upto_region 27 with fail
      have kf : Blk (w9.setCell ⟨w.heap.size, 5, none⟩ (.slice b I.length d)) (w.heap.size) #[.slice a1 S.pts.length c1, .slice a2 S.hs.length c2, .int .i64 S.steep, .int .i64 S.th.lo, .int .i64 S.th.hi, .slice b I.length d] 30 := K19.out.set 5 _
      have ht : Turn (fun k => k = w.heap.size) w9 (w9.setCell ⟨w.heap.size, 5, none⟩ (.slice b I.length d)) := (Turn.of_below (X := fun k => k = w.heap.size) (Below.refl _ w9)).setCell (B := w.heap.size) rfl 5 _
      generalize w9.setCell ⟨w.heap.size, 5, none⟩ (.slice b I.length d) = w10 at *
      clear s0 s1 s2 s3 s4 s5 l1 p0 p1 l2 x0 x1 l4 z5
      have K110 := Lib.hid kf
      have K210 := Lib.hid (ht.blk K29.out (fun e => by have := (show w.heap.size + 1 = w.heap.size from e); omega))
      have K310 := Lib.hid (ht.blk K39.out (fun e => by have := (show w.heap.size + 1 + 1 = w.heap.size from e); omega))
      have K410 := Lib.hid (ht.blk K49.out (fun e => by have := (show w3.heap.size = w.heap.size from e); have := HLT.out; omega))
      have HB10 := Lib.hid (HB9.out.trans (ht.below HB9.out.size (fun k e => by rw [show k = w.heap.size from e]; exact Nat.le_refl _)))
      have hRow := mrk_own HOW9.out
      have hX1 : ∀ (x : Addr), a1 = some x ∨ a2 = some x → ¬ x.block = w.heap.size := fun x hx => by
        have := (HFAR.out x hx).1
        have := HLT.out
        omega
      have hX6 : ∀ (x : Addr), b = some x → ¬ x.block = w.heap.size := fun x hx => by
        have := hRow.2 x hx
        have := HLT6.out
        omega
      have HTI := Lib.hid (show IsSkn w10 ⟨a1, c1, S.pts, a2, c2, S.hs, S.steep, S.th, b, d, I⟩ from ⟨(HP6.out.below HB69.out).turn ht (fun x hx => hX1 x (.inl hx)), (HH6.out.below HB69.out).turn ht (fun x hx => hX1 x (.inr hx)), hRow.1.turn ht hX6⟩)
      have HFR := Lib.hid (show Fresh w.heap.size ⟨a1, c1, S.pts, a2, c2, S.hs, S.steep, S.th, b, d, I⟩ from Fresh.mk3 (fun x hx => by have := (HFAR.out x (.inl hx)).1; have := HLT.out; omega) (fun x hx => by have := (HFAR.out x (.inr hx)).1; have := HLT.out; omega) (fun x hx => by have := hRow.2 x hx; have := HLT6.out; omega))
      have HBX := Lib.hid hRow.2
      clear kf ht hRow hX1 hX6 K19 K29 K39 K49
      obtain ⟨s0, s1, s2, s3, s4, s5⟩ := (show w10.cell? ⟨w.heap.size, 0, none⟩ = some (.slice a1 S.pts.length c1) ∧ w10.cell? ⟨w.heap.size, 1, none⟩ = some (.slice a2 S.hs.length c2) ∧ w10.cell? ⟨w.heap.size, 2, none⟩ = some (.int .i64 S.steep) ∧ w10.cell? ⟨w.heap.size, 3, none⟩ = some (.int .i64 S.th.lo) ∧ w10.cell? ⟨w.heap.size, 4, none⟩ = some (.int .i64 S.th.hi) ∧ w10.cell? ⟨w.heap.size, 5, none⟩ = some (.slice b I.length d) from ⟨K110.out.cell 0, K110.out.cell 1, K110.out.cell 2, K110.out.cell 3, K110.out.cell 4, K110.out.cell 5⟩)
      have l1 := K110.out.lt
      obtain ⟨p0, p1⟩ := pnt_cells K210.out
      have l2 := K210.out.lt
      obtain ⟨x0, x1⟩ := spn_cells K410.out
      have l4 := K410.out.lt
      by_cases h40 : 40 < I.length
      · have HV := Lib.hid (show probeE S p r n = 3 from twin_many HPO.out HR.out (by rw [HX3.out, ← HI.out]; exact h40))
        have h40' : (40 : Int) < (I.length : Int) := by omega
        clear h40
        obtain ⟨r0, r1, r2, r3, r4, r5⟩ := (show w10.cell? ⟨w.heap.size + 1 + 1, 0, none⟩ = some (.slice none 0 0) ∧ w10.cell? ⟨w.heap.size + 1 + 1, 1, none⟩ = some (.slice none 0 0) ∧ w10.cell? ⟨w.heap.size + 1 + 1, 2, none⟩ = some (.int .i64 0) ∧ w10.cell? ⟨w.heap.size + 1 + 1, 3, none⟩ = some (.int .i64 0) ∧ w10.cell? ⟨w.heap.size + 1 + 1, 4, none⟩ = some (.int .i64 0) ∧ w10.cell? ⟨w.heap.size + 1 + 1, 5, none⟩ = some (.slice none 0 0) from ⟨K310.out.cell 0, K310.out.cell 1, K310.out.cell 2, K310.out.cell 3, K310.out.cell 4, K310.out.cell 5⟩)
        have l3 := K310.out.lt
        have z0 := K310.out.frozen 0
        have z1 := K310.out.frozen 1
        have z2 := K310.out.frozen 2
        have z3 := K310.out.frozen 3
        have z4 := K310.out.frozen 4
        have z5 := K310.out.frozen 5
        go_wp2_with fail
        have kf : Blk ((((((w10.setCell ⟨w.heap.size + 1 + 1, 0, none⟩ (.slice none 0 0)).setCell ⟨w.heap.size + 1 + 1, 1, none⟩ (.slice none 0 0)).setCell ⟨w.heap.size + 1 + 1, 2, none⟩ (.int .i64 0)).setCell ⟨w.heap.size + 1 + 1, 3, none⟩ (.int .i64 0)).setCell ⟨w.heap.size + 1 + 1, 4, none⟩ (.int .i64 0)).setCell ⟨w.heap.size + 1 + 1, 5, none⟩ (.slice none 0 0)) (w.heap.size + 1 + 1) #[.slice none 0 0, .slice none 0 0, .int .i64 0, .int .i64 0, .int .i64 0, .slice none 0 0] 30 := ((((((K310.out.set 0 (.slice none 0 0)).set 1 (.slice none 0 0)).set 2 (.int .i64 0)).set 3 (.int .i64 0)).set 4 (.int .i64 0)).set 5 (.slice none 0 0))
        have ht : Turn (fun k => k = w.heap.size + 1 + 1) w10 ((((((w10.setCell ⟨w.heap.size + 1 + 1, 0, none⟩ (.slice none 0 0)).setCell ⟨w.heap.size + 1 + 1, 1, none⟩ (.slice none 0 0)).setCell ⟨w.heap.size + 1 + 1, 2, none⟩ (.int .i64 0)).setCell ⟨w.heap.size + 1 + 1, 3, none⟩ (.int .i64 0)).setCell ⟨w.heap.size + 1 + 1, 4, none⟩ (.int .i64 0)).setCell ⟨w.heap.size + 1 + 1, 5, none⟩ (.slice none 0 0)) := (((((((Turn.of_below (X := fun k => k = w.heap.size + 1 + 1) (Below.refl _ w10)).setCell (B := w.heap.size + 1 + 1) rfl 0 (.slice none 0 0)).setCell (B := w.heap.size + 1 + 1) rfl 1 (.slice none 0 0)).setCell (B := w.heap.size + 1 + 1) rfl 2 (.int .i64 0)).setCell (B := w.heap.size + 1 + 1) rfl 3 (.int .i64 0)).setCell (B := w.heap.size + 1 + 1) rfl 4 (.int .i64 0)).setCell (B := w.heap.size + 1 + 1) rfl 5 (.slice none 0 0))
        generalize ((((((w10.setCell ⟨w.heap.size + 1 + 1, 0, none⟩ (.slice none 0 0)).setCell ⟨w.heap.size + 1 + 1, 1, none⟩ (.slice none 0 0)).setCell ⟨w.heap.size + 1 + 1, 2, none⟩ (.int .i64 0)).setCell ⟨w.heap.size + 1 + 1, 3, none⟩ (.int .i64 0)).setCell ⟨w.heap.size + 1 + 1, 4, none⟩ (.int .i64 0)).setCell ⟨w.heap.size + 1 + 1, 5, none⟩ (.slice none 0 0)) = wf at *
        obtain ⟨g0, g1, g2, g3, g4, g5⟩ := (show wf.cell? ⟨w.heap.size + 1 + 1, 0, none⟩ = some (.slice none 0 0) ∧ wf.cell? ⟨w.heap.size + 1 + 1, 1, none⟩ = some (.slice none 0 0) ∧ wf.cell? ⟨w.heap.size + 1 + 1, 2, none⟩ = some (.int .i64 0) ∧ wf.cell? ⟨w.heap.size + 1 + 1, 3, none⟩ = some (.int .i64 0) ∧ wf.cell? ⟨w.heap.size + 1 + 1, 4, none⟩ = some (.int .i64 0) ∧ wf.cell? ⟨w.heap.size + 1 + 1, 5, none⟩ = some (.slice none 0 0) from ⟨kf.cell 0, kf.cell 1, kf.cell 2, kf.cell 3, kf.cell 4, kf.cell 5⟩)
        refine bodyPost_ret (v := .tuple #[.agg #[.slice none 0 0, .slice none 0 0, .int .i64 0, .int .i64 0, .int .i64 0, .slice none 0 0], .int .i64 3]) (by simp [results, Tryd.results24, go_sem, g0, g1, g2, g3, g4, g5]) rfl ?_
        rw [HV.out]
        exact ⟨⟨zeroSkn, rfl, zero_is _, zero_fresh _, fun h0 => absurd h0 (by decide), fun _ => rfl⟩, HB10.out.trans (ht.below HB10.out.size (fun k e => by rw [show k = w.heap.size + 1 + 1 from e]; omega))⟩
      have h40' : ¬ (40 : Int) < (I.length : Int) := by omega
      have HF := Lib.hid (show ¬ 40 < (insR ⟨p, saidM r n⟩ S.ms).length by rw [HX3.out, ← HI.out]; exact h40)
      clear h40
      go_wp2_with fail
      have hC := refCheck_any ⟨a1, c1, S.pts, a2, c2, S.hs, S.steep, S.th, b, d, I⟩ w10 HTI.out
      simp only at hC
      refine hC.mono ?_
      clear hC
      rintro e w11 ⟨rfl, hb⟩
      clear s0 s1 s2 s3 s4 s5 l1 p0 p1 l2 x0 x1 l4 h40'
      have K111 := Lib.hid (K110.out.belowS hb)
      have K211 := Lib.hid (K210.out.belowS hb)
      have K311 := Lib.hid (K310.out.belowS hb)
      have K411 := Lib.hid (K410.out.belowS hb)
      have HB11 := Lib.hid (HB10.out.trans (hb.mono HB10.out.size))
      have HTI2 := Lib.hid (HTI.out.below hb)
      clear hb K110 K210 K310 K410
      obtain ⟨E, hE⟩ : ∃ E, skinE ⟨a1, c1, S.pts, a2, c2, S.hs, S.steep, S.th, b, d, I⟩ = E := ⟨_, rfl⟩
      rw [hE]
      obtain ⟨s0, s1, s2, s3, s4, s5⟩ := (show w11.cell? ⟨w.heap.size, 0, none⟩ = some (.slice a1 S.pts.length c1) ∧ w11.cell? ⟨w.heap.size, 1, none⟩ = some (.slice a2 S.hs.length c2) ∧ w11.cell? ⟨w.heap.size, 2, none⟩ = some (.int .i64 S.steep) ∧ w11.cell? ⟨w.heap.size, 3, none⟩ = some (.int .i64 S.th.lo) ∧ w11.cell? ⟨w.heap.size, 4, none⟩ = some (.int .i64 S.th.hi) ∧ w11.cell? ⟨w.heap.size, 5, none⟩ = some (.slice b I.length d) from ⟨K111.out.cell 0, K111.out.cell 1, K111.out.cell 2, K111.out.cell 3, K111.out.cell 4, K111.out.cell 5⟩)
      have l1 := K111.out.lt
      obtain ⟨p0, p1⟩ := pnt_cells K211.out
      have l2 := K211.out.lt
      obtain ⟨x0, x1⟩ := spn_cells K411.out
      have l4 := K411.out.lt
      by_cases hz : E = 0
      rotate_left
      · have HV := Lib.hid (show probeE S p r n = 10 from twin_clash (T := ⟨a1, c1, S.pts, a2, c2, S.hs, S.steep, S.th, b, d, I⟩) HPO.out HR.out HF.out rfl rfl rfl rfl (by rw [HX3.out]; exact HI.out) (by rw [hE]; exact hz))
        have hzb : (E == 0) = false := by rw [beq_eq_false_iff_ne]; exact hz
        have hzn : (E != 0) = true := by simp [hz]
        clear hE
        obtain ⟨r0, r1, r2, r3, r4, r5⟩ := (show w11.cell? ⟨w.heap.size + 1 + 1, 0, none⟩ = some (.slice none 0 0) ∧ w11.cell? ⟨w.heap.size + 1 + 1, 1, none⟩ = some (.slice none 0 0) ∧ w11.cell? ⟨w.heap.size + 1 + 1, 2, none⟩ = some (.int .i64 0) ∧ w11.cell? ⟨w.heap.size + 1 + 1, 3, none⟩ = some (.int .i64 0) ∧ w11.cell? ⟨w.heap.size + 1 + 1, 4, none⟩ = some (.int .i64 0) ∧ w11.cell? ⟨w.heap.size + 1 + 1, 5, none⟩ = some (.slice none 0 0) from ⟨K311.out.cell 0, K311.out.cell 1, K311.out.cell 2, K311.out.cell 3, K311.out.cell 4, K311.out.cell 5⟩)
        have l3 := K311.out.lt
        have z0 := K311.out.frozen 0
        have z1 := K311.out.frozen 1
        have z2 := K311.out.frozen 2
        have z3 := K311.out.frozen 3
        have z4 := K311.out.frozen 4
        have z5 := K311.out.frozen 5
        go_wp2_with fail
        have kf : Blk ((((((w11.setCell ⟨w.heap.size + 1 + 1, 0, none⟩ (.slice none 0 0)).setCell ⟨w.heap.size + 1 + 1, 1, none⟩ (.slice none 0 0)).setCell ⟨w.heap.size + 1 + 1, 2, none⟩ (.int .i64 0)).setCell ⟨w.heap.size + 1 + 1, 3, none⟩ (.int .i64 0)).setCell ⟨w.heap.size + 1 + 1, 4, none⟩ (.int .i64 0)).setCell ⟨w.heap.size + 1 + 1, 5, none⟩ (.slice none 0 0)) (w.heap.size + 1 + 1) #[.slice none 0 0, .slice none 0 0, .int .i64 0, .int .i64 0, .int .i64 0, .slice none 0 0] 30 := ((((((K311.out.set 0 (.slice none 0 0)).set 1 (.slice none 0 0)).set 2 (.int .i64 0)).set 3 (.int .i64 0)).set 4 (.int .i64 0)).set 5 (.slice none 0 0))
        have ht : Turn (fun k => k = w.heap.size + 1 + 1) w11 ((((((w11.setCell ⟨w.heap.size + 1 + 1, 0, none⟩ (.slice none 0 0)).setCell ⟨w.heap.size + 1 + 1, 1, none⟩ (.slice none 0 0)).setCell ⟨w.heap.size + 1 + 1, 2, none⟩ (.int .i64 0)).setCell ⟨w.heap.size + 1 + 1, 3, none⟩ (.int .i64 0)).setCell ⟨w.heap.size + 1 + 1, 4, none⟩ (.int .i64 0)).setCell ⟨w.heap.size + 1 + 1, 5, none⟩ (.slice none 0 0)) := (((((((Turn.of_below (X := fun k => k = w.heap.size + 1 + 1) (Below.refl _ w11)).setCell (B := w.heap.size + 1 + 1) rfl 0 (.slice none 0 0)).setCell (B := w.heap.size + 1 + 1) rfl 1 (.slice none 0 0)).setCell (B := w.heap.size + 1 + 1) rfl 2 (.int .i64 0)).setCell (B := w.heap.size + 1 + 1) rfl 3 (.int .i64 0)).setCell (B := w.heap.size + 1 + 1) rfl 4 (.int .i64 0)).setCell (B := w.heap.size + 1 + 1) rfl 5 (.slice none 0 0))
        generalize ((((((w11.setCell ⟨w.heap.size + 1 + 1, 0, none⟩ (.slice none 0 0)).setCell ⟨w.heap.size + 1 + 1, 1, none⟩ (.slice none 0 0)).setCell ⟨w.heap.size + 1 + 1, 2, none⟩ (.int .i64 0)).setCell ⟨w.heap.size + 1 + 1, 3, none⟩ (.int .i64 0)).setCell ⟨w.heap.size + 1 + 1, 4, none⟩ (.int .i64 0)).setCell ⟨w.heap.size + 1 + 1, 5, none⟩ (.slice none 0 0)) = wf at *
        obtain ⟨g0, g1, g2, g3, g4, g5⟩ := (show wf.cell? ⟨w.heap.size + 1 + 1, 0, none⟩ = some (.slice none 0 0) ∧ wf.cell? ⟨w.heap.size + 1 + 1, 1, none⟩ = some (.slice none 0 0) ∧ wf.cell? ⟨w.heap.size + 1 + 1, 2, none⟩ = some (.int .i64 0) ∧ wf.cell? ⟨w.heap.size + 1 + 1, 3, none⟩ = some (.int .i64 0) ∧ wf.cell? ⟨w.heap.size + 1 + 1, 4, none⟩ = some (.int .i64 0) ∧ wf.cell? ⟨w.heap.size + 1 + 1, 5, none⟩ = some (.slice none 0 0) from ⟨kf.cell 0, kf.cell 1, kf.cell 2, kf.cell 3, kf.cell 4, kf.cell 5⟩)
        refine bodyPost_ret (v := .tuple #[.agg #[.slice none 0 0, .slice none 0 0, .int .i64 0, .int .i64 0, .int .i64 0, .slice none 0 0], .int .i64 10]) (by simp [results, Tryd.results24, go_sem, g0, g1, g2, g3, g4, g5]) rfl ?_
        rw [HV.out]
        exact ⟨⟨zeroSkn, rfl, zero_is _, zero_fresh _, fun h0 => absurd h0 (by decide), fun _ => rfl⟩, HB11.out.trans (ht.below HB11.out.size (fun k e => by rw [show k = w.heap.size + 1 + 1 from e]; omega))⟩
      subst hz
      have HV := Lib.hid (twin_good (T := ⟨a1, c1, S.pts, a2, c2, S.hs, S.steep, S.th, b, d, I⟩) HPO.out HR.out HF.out rfl rfl rfl rfl (by rw [HX3.out]; exact HI.out) hE)
      clear hE
      obtain ⟨r0, r1, r2, r3, r4, r5⟩ := (show w11.cell? ⟨w.heap.size + 1 + 1, 0, none⟩ = some (.slice none 0 0) ∧ w11.cell? ⟨w.heap.size + 1 + 1, 1, none⟩ = some (.slice none 0 0) ∧ w11.cell? ⟨w.heap.size + 1 + 1, 2, none⟩ = some (.int .i64 0) ∧ w11.cell? ⟨w.heap.size + 1 + 1, 3, none⟩ = some (.int .i64 0) ∧ w11.cell? ⟨w.heap.size + 1 + 1, 4, none⟩ = some (.int .i64 0) ∧ w11.cell? ⟨w.heap.size + 1 + 1, 5, none⟩ = some (.slice none 0 0) from ⟨K311.out.cell 0, K311.out.cell 1, K311.out.cell 2, K311.out.cell 3, K311.out.cell 4, K311.out.cell 5⟩)
      have l3 := K311.out.lt
      have z0 := K311.out.frozen 0
      have z1 := K311.out.frozen 1
      have z2 := K311.out.frozen 2
      have z3 := K311.out.frozen 3
      have z4 := K311.out.frozen 4
      have z5 := K311.out.frozen 5
      go_wp2_with fail
      have kf : Blk ((((((w11.setCell ⟨w.heap.size + 1 + 1, 0, none⟩ (.slice a1 S.pts.length c1)).setCell ⟨w.heap.size + 1 + 1, 1, none⟩ (.slice a2 S.hs.length c2)).setCell ⟨w.heap.size + 1 + 1, 2, none⟩ (.int .i64 S.steep)).setCell ⟨w.heap.size + 1 + 1, 3, none⟩ (.int .i64 S.th.lo)).setCell ⟨w.heap.size + 1 + 1, 4, none⟩ (.int .i64 S.th.hi)).setCell ⟨w.heap.size + 1 + 1, 5, none⟩ (.slice b I.length d)) (w.heap.size + 1 + 1) #[.slice a1 S.pts.length c1, .slice a2 S.hs.length c2, .int .i64 S.steep, .int .i64 S.th.lo, .int .i64 S.th.hi, .slice b I.length d] 30 := ((((((K311.out.set 0 (.slice a1 S.pts.length c1)).set 1 (.slice a2 S.hs.length c2)).set 2 (.int .i64 S.steep)).set 3 (.int .i64 S.th.lo)).set 4 (.int .i64 S.th.hi)).set 5 (.slice b I.length d))
      have ht : Turn (fun k => k = w.heap.size + 1 + 1) w11 ((((((w11.setCell ⟨w.heap.size + 1 + 1, 0, none⟩ (.slice a1 S.pts.length c1)).setCell ⟨w.heap.size + 1 + 1, 1, none⟩ (.slice a2 S.hs.length c2)).setCell ⟨w.heap.size + 1 + 1, 2, none⟩ (.int .i64 S.steep)).setCell ⟨w.heap.size + 1 + 1, 3, none⟩ (.int .i64 S.th.lo)).setCell ⟨w.heap.size + 1 + 1, 4, none⟩ (.int .i64 S.th.hi)).setCell ⟨w.heap.size + 1 + 1, 5, none⟩ (.slice b I.length d)) := (((((((Turn.of_below (X := fun k => k = w.heap.size + 1 + 1) (Below.refl _ w11)).setCell (B := w.heap.size + 1 + 1) rfl 0 (.slice a1 S.pts.length c1)).setCell (B := w.heap.size + 1 + 1) rfl 1 (.slice a2 S.hs.length c2)).setCell (B := w.heap.size + 1 + 1) rfl 2 (.int .i64 S.steep)).setCell (B := w.heap.size + 1 + 1) rfl 3 (.int .i64 S.th.lo)).setCell (B := w.heap.size + 1 + 1) rfl 4 (.int .i64 S.th.hi)).setCell (B := w.heap.size + 1 + 1) rfl 5 (.slice b I.length d))
      generalize ((((((w11.setCell ⟨w.heap.size + 1 + 1, 0, none⟩ (.slice a1 S.pts.length c1)).setCell ⟨w.heap.size + 1 + 1, 1, none⟩ (.slice a2 S.hs.length c2)).setCell ⟨w.heap.size + 1 + 1, 2, none⟩ (.int .i64 S.steep)).setCell ⟨w.heap.size + 1 + 1, 3, none⟩ (.int .i64 S.th.lo)).setCell ⟨w.heap.size + 1 + 1, 4, none⟩ (.int .i64 S.th.hi)).setCell ⟨w.heap.size + 1 + 1, 5, none⟩ (.slice b I.length d)) = wf at *
      obtain ⟨g0, g1, g2, g3, g4, g5⟩ := (show wf.cell? ⟨w.heap.size + 1 + 1, 0, none⟩ = some (.slice a1 S.pts.length c1) ∧ wf.cell? ⟨w.heap.size + 1 + 1, 1, none⟩ = some (.slice a2 S.hs.length c2) ∧ wf.cell? ⟨w.heap.size + 1 + 1, 2, none⟩ = some (.int .i64 S.steep) ∧ wf.cell? ⟨w.heap.size + 1 + 1, 3, none⟩ = some (.int .i64 S.th.lo) ∧ wf.cell? ⟨w.heap.size + 1 + 1, 4, none⟩ = some (.int .i64 S.th.hi) ∧ wf.cell? ⟨w.heap.size + 1 + 1, 5, none⟩ = some (.slice b I.length d) from ⟨kf.cell 0, kf.cell 1, kf.cell 2, kf.cell 3, kf.cell 4, kf.cell 5⟩)
      refine bodyPost_ret (v := .tuple #[.agg #[.slice a1 S.pts.length c1, .slice a2 S.hs.length c2, .int .i64 S.steep, .int .i64 S.th.lo, .int .i64 S.th.hi, .slice b I.length d], .int .i64 0]) (by simp [results, Tryd.results24, go_sem, g0, g1, g2, g3, g4, g5]) rfl ?_
      rw [HV.out.1]
      refine ⟨⟨⟨a1, c1, S.pts, a2, c2, S.hs, S.steep, S.th, b, d, I⟩, rfl, HTI2.out.turn ht (fun x hx => ?_), HFR.out, fun _ => HV.out.2, fun h0 => absurd rfl h0⟩, HB11.out.trans (ht.below HB11.out.size (fun k e => by rw [show k = w.heap.size + 1 + 1 from e]; omega))⟩
      have h3 := HLT.out
      rcases hx with hx | hx | hx
      · have := (HFAR.out x (.inl hx)).1; intro e; have := (show x.block = w.heap.size + 1 + 1 from e); omega
      · have := (HFAR.out x (.inr hx)).1; intro e; have := (show x.block = w.heap.size + 1 + 1 from e); omega
      · have := HBX.out x hx; have := HLT6.out; intro e; have := (show x.block = w.heap.size + 1 + 1 from e); omega
    | false =>
      have hbE : Below w7.heap.size w7 (w7.alloc (.cells #[.int .i64 p.x, .int .i64 p.y, .int .i64 X.lo, .int .i64 X.hi] 61)) := (Below.refl _ w7).alloc (Nat.le_refl _) _
      have HOE := Lib.hid (own_below HOW7.out hbE)
      have HBE := Lib.hid (HB67.out.trans (hbE.mono HB67.out.size))
      have HNE := Lib.hid (show ∀ j u, ([.int .i64 p.x, .int .i64 p.y, .int .i64 X.lo, .int .i64 X.hi] : List Value)[j]? = some u → (w7.alloc (.cells #[.int .i64 p.x, .int .i64 p.y, .int .i64 X.lo, .int .i64 X.hi] 61)).cell? ((⟨w7.heap.size, 0, none⟩ : Addr).add j) = some u from fun j u hu => by
        rw [addr_zeroU, (Blk.new w7 61 #[.int .i64 p.x, .int .i64 p.y, .int .i64 X.lo, .int .i64 X.hi]).cell]
        simpa using hu)
      have HONE := Lib.hid (show ∀ u ∈ ([.int .i64 p.x, .int .i64 p.y, .int .i64 X.lo, .int .i64 X.hi] : List Value), u.oneCell' = true from fun u hu => by
        simp only [List.mem_cons, List.not_mem_nil, or_false] at hu
        rcases hu with rfl | rfl | rfl | rfl <;> rfl)
      have HBS := Lib.hid (show w6.heap.size ≤ (w7.alloc (.cells #[.int .i64 p.x, .int .i64 p.y, .int .i64 X.lo, .int .i64 X.hi] 61)).heap.size from HBE.out.size)
      have HBW := Lib.hid hbE
      clear hbE
      go_upto_region 26 with (at_builtin; refine wpList_append_lies _ rfl _ _ 28 rfl w6.heap.size 61 i0 (.agg #[.int .i64 0, .int .i64 0, .int .i64 0, .int .i64 0]) 4 32 Tryd.underlying28 hi hz0 hz1 hz2 rfl (by decide) (.slice a L.length c) L.length (L.flatMap mrkL) rfl HOE.out ⟨w7.heap.size, 0, none⟩ 1 1 [.int .i64 p.x, .int .i64 p.y, .int .i64 X.lo, .int .i64 X.hi] rfl rfl HNE.out HONE.out (by decide) (by have := HLL.out; unfold maxLen; omega) (by have := HLL.out; omega) HBS.out _ rfl ?_; intro g cap w9 howo hgrow hat hlto; have HOO := Lib.hid howo; have HGO := Lib.hid hgrow; clear howo hgrow hat hlto)
      have HOW9 := Lib.hid (own_append (m := (⟨p, X⟩ : Mrk)) HOO.out)
      have HB69 := Lib.hid (HBE.out.grown HGO.out HBE.out.size (fun k e => (HOW7.out.lt k e).1))
      clear HOO HGO HOE HNE HONE HBS HBE HBW
      clear s0 s1 s2 s3 s4 s5 l1 p0 p1 l2 x0 x1 l4
      have HI := Lib.hid (show L ++ [⟨p, X⟩] = insR ⟨p, X⟩ S.ms from HE.out)
      have hle : L.length + 1 = (L ++ [(⟨p, X⟩ : Mrk)]).length := by simp
      rw [hle]
      have HOW9' := HOW9.out
      obtain ⟨b, hb⟩ : ∃ b : Option Addr, b = some ⟨g, 0, none⟩ := ⟨_, rfl⟩
      rw [← hb] at HOW9' ⊢
      generalize L ++ [(⟨p, X⟩ : Mrk)] = I at *
      clear hb HOW9 hle
      have HOW9 := Lib.hid HOW9'
      clear HOW9'
      obtain ⟨d, rfl⟩ : ∃ d : Nat, d = cap := ⟨_, rfl⟩
      clear K17 K27 K37 K47 HB7 HOW7 HB67
      have HB9 := Lib.hid (HB6.out.trans (HB69.out.mono HB6.out.size))
      have K19 := Lib.hid (K16.out.belowS HB69.out)
      have K29 := Lib.hid (K26.out.belowS HB69.out)
      have K39 := Lib.hid (K36.out.belowS HB69.out)
      have K49 := Lib.hid (K46.out.belowS HB69.out)
      obtain ⟨s0, s1, s2, s3, s4, s5⟩ := (show w9.cell? ⟨w.heap.size, 0, none⟩ = some (.slice a1 S.pts.length c1) ∧ w9.cell? ⟨w.heap.size, 1, none⟩ = some (.slice a2 S.hs.length c2) ∧ w9.cell? ⟨w.heap.size, 2, none⟩ = some (.int .i64 S.steep) ∧ w9.cell? ⟨w.heap.size, 3, none⟩ = some (.int .i64 S.th.lo) ∧ w9.cell? ⟨w.heap.size, 4, none⟩ = some (.int .i64 S.th.hi) ∧ w9.cell? ⟨w.heap.size, 5, none⟩ = some (.slice a3 S.ms.length c3) from ⟨K19.out.cell 0, K19.out.cell 1, K19.out.cell 2, K19.out.cell 3, K19.out.cell 4, K19.out.cell 5⟩)
      have l1 := K19.out.lt
      obtain ⟨p0, p1⟩ := pnt_cells K29.out
      have l2 := K29.out.lt
      obtain ⟨x0, x1⟩ := spn_cells K49.out
      have l4 := K49.out.lt
      have z5 := K19.out.frozen 5
      go_upto_region 27 with fail
      have kf : Blk (w9.setCell ⟨w.heap.size, 5, none⟩ (.slice b I.length d)) (w.heap.size) #[.slice a1 S.pts.length c1, .slice a2 S.hs.length c2, .int .i64 S.steep, .int .i64 S.th.lo, .int .i64 S.th.hi, .slice b I.length d] 30 := K19.out.set 5 _
      have ht : Turn (fun k => k = w.heap.size) w9 (w9.setCell ⟨w.heap.size, 5, none⟩ (.slice b I.length d)) := (Turn.of_below (X := fun k => k = w.heap.size) (Below.refl _ w9)).setCell (B := w.heap.size) rfl 5 _
      generalize w9.setCell ⟨w.heap.size, 5, none⟩ (.slice b I.length d) = w10 at *
      clear s0 s1 s2 s3 s4 s5 l1 p0 p1 l2 x0 x1 l4 z5
      have K110 := Lib.hid kf
      have K210 := Lib.hid (ht.blk K29.out (fun e => by have := (show w.heap.size + 1 = w.heap.size from e); omega))
      have K310 := Lib.hid (ht.blk K39.out (fun e => by have := (show w.heap.size + 1 + 1 = w.heap.size from e); omega))
      have K410 := Lib.hid (ht.blk K49.out (fun e => by have := (show w3.heap.size = w.heap.size from e); have := HLT.out; omega))
      have HB10 := Lib.hid (HB9.out.trans (ht.below HB9.out.size (fun k e => by rw [show k = w.heap.size from e]; exact Nat.le_refl _)))
      have hRow := mrk_own HOW9.out
      have hX1 : ∀ (x : Addr), a1 = some x ∨ a2 = some x → ¬ x.block = w.heap.size := fun x hx => by
        have := (HFAR.out x hx).1
        have := HLT.out
        omega
      have hX6 : ∀ (x : Addr), b = some x → ¬ x.block = w.heap.size := fun x hx => by
        have := hRow.2 x hx
        have := HLT6.out
        omega
      have HTI := Lib.hid (show IsSkn w10 ⟨a1, c1, S.pts, a2, c2, S.hs, S.steep, S.th, b, d, I⟩ from ⟨(HP6.out.below HB69.out).turn ht (fun x hx => hX1 x (.inl hx)), (HH6.out.below HB69.out).turn ht (fun x hx => hX1 x (.inr hx)), hRow.1.turn ht hX6⟩)
      have HFR := Lib.hid (show Fresh w.heap.size ⟨a1, c1, S.pts, a2, c2, S.hs, S.steep, S.th, b, d, I⟩ from Fresh.mk3 (fun x hx => by have := (HFAR.out x (.inl hx)).1; have := HLT.out; omega) (fun x hx => by have := (HFAR.out x (.inr hx)).1; have := HLT.out; omega) (fun x hx => by have := hRow.2 x hx; have := HLT6.out; omega))
      have HBX := Lib.hid hRow.2
      clear kf ht hRow hX1 hX6 K19 K29 K39 K49
      obtain ⟨s0, s1, s2, s3, s4, s5⟩ := (show w10.cell? ⟨w.heap.size, 0, none⟩ = some (.slice a1 S.pts.length c1) ∧ w10.cell? ⟨w.heap.size, 1, none⟩ = some (.slice a2 S.hs.length c2) ∧ w10.cell? ⟨w.heap.size, 2, none⟩ = some (.int .i64 S.steep) ∧ w10.cell? ⟨w.heap.size, 3, none⟩ = some (.int .i64 S.th.lo) ∧ w10.cell? ⟨w.heap.size, 4, none⟩ = some (.int .i64 S.th.hi) ∧ w10.cell? ⟨w.heap.size, 5, none⟩ = some (.slice b I.length d) from ⟨K110.out.cell 0, K110.out.cell 1, K110.out.cell 2, K110.out.cell 3, K110.out.cell 4, K110.out.cell 5⟩)
      have l1 := K110.out.lt
      obtain ⟨p0, p1⟩ := pnt_cells K210.out
      have l2 := K210.out.lt
      obtain ⟨x0, x1⟩ := spn_cells K410.out
      have l4 := K410.out.lt
      by_cases h40 : 40 < I.length
      · have HV := Lib.hid (show probeE S p r n = 3 from twin_many HPO.out HR.out (by rw [HX3.out, ← HI.out]; exact h40))
        have h40' : (40 : Int) < (I.length : Int) := by omega
        clear h40
        obtain ⟨r0, r1, r2, r3, r4, r5⟩ := (show w10.cell? ⟨w.heap.size + 1 + 1, 0, none⟩ = some (.slice none 0 0) ∧ w10.cell? ⟨w.heap.size + 1 + 1, 1, none⟩ = some (.slice none 0 0) ∧ w10.cell? ⟨w.heap.size + 1 + 1, 2, none⟩ = some (.int .i64 0) ∧ w10.cell? ⟨w.heap.size + 1 + 1, 3, none⟩ = some (.int .i64 0) ∧ w10.cell? ⟨w.heap.size + 1 + 1, 4, none⟩ = some (.int .i64 0) ∧ w10.cell? ⟨w.heap.size + 1 + 1, 5, none⟩ = some (.slice none 0 0) from ⟨K310.out.cell 0, K310.out.cell 1, K310.out.cell 2, K310.out.cell 3, K310.out.cell 4, K310.out.cell 5⟩)
        have l3 := K310.out.lt
        have z0 := K310.out.frozen 0
        have z1 := K310.out.frozen 1
        have z2 := K310.out.frozen 2
        have z3 := K310.out.frozen 3
        have z4 := K310.out.frozen 4
        have z5 := K310.out.frozen 5
        go_wp2_with fail
        have kf : Blk ((((((w10.setCell ⟨w.heap.size + 1 + 1, 0, none⟩ (.slice none 0 0)).setCell ⟨w.heap.size + 1 + 1, 1, none⟩ (.slice none 0 0)).setCell ⟨w.heap.size + 1 + 1, 2, none⟩ (.int .i64 0)).setCell ⟨w.heap.size + 1 + 1, 3, none⟩ (.int .i64 0)).setCell ⟨w.heap.size + 1 + 1, 4, none⟩ (.int .i64 0)).setCell ⟨w.heap.size + 1 + 1, 5, none⟩ (.slice none 0 0)) (w.heap.size + 1 + 1) #[.slice none 0 0, .slice none 0 0, .int .i64 0, .int .i64 0, .int .i64 0, .slice none 0 0] 30 := ((((((K310.out.set 0 (.slice none 0 0)).set 1 (.slice none 0 0)).set 2 (.int .i64 0)).set 3 (.int .i64 0)).set 4 (.int .i64 0)).set 5 (.slice none 0 0))
        have ht : Turn (fun k => k = w.heap.size + 1 + 1) w10 ((((((w10.setCell ⟨w.heap.size + 1 + 1, 0, none⟩ (.slice none 0 0)).setCell ⟨w.heap.size + 1 + 1, 1, none⟩ (.slice none 0 0)).setCell ⟨w.heap.size + 1 + 1, 2, none⟩ (.int .i64 0)).setCell ⟨w.heap.size + 1 + 1, 3, none⟩ (.int .i64 0)).setCell ⟨w.heap.size + 1 + 1, 4, none⟩ (.int .i64 0)).setCell ⟨w.heap.size + 1 + 1, 5, none⟩ (.slice none 0 0)) := (((((((Turn.of_below (X := fun k => k = w.heap.size + 1 + 1) (Below.refl _ w10)).setCell (B := w.heap.size + 1 + 1) rfl 0 (.slice none 0 0)).setCell (B := w.heap.size + 1 + 1) rfl 1 (.slice none 0 0)).setCell (B := w.heap.size + 1 + 1) rfl 2 (.int .i64 0)).setCell (B := w.heap.size + 1 + 1) rfl 3 (.int .i64 0)).setCell (B := w.heap.size + 1 + 1) rfl 4 (.int .i64 0)).setCell (B := w.heap.size + 1 + 1) rfl 5 (.slice none 0 0))
        generalize ((((((w10.setCell ⟨w.heap.size + 1 + 1, 0, none⟩ (.slice none 0 0)).setCell ⟨w.heap.size + 1 + 1, 1, none⟩ (.slice none 0 0)).setCell ⟨w.heap.size + 1 + 1, 2, none⟩ (.int .i64 0)).setCell ⟨w.heap.size + 1 + 1, 3, none⟩ (.int .i64 0)).setCell ⟨w.heap.size + 1 + 1, 4, none⟩ (.int .i64 0)).setCell ⟨w.heap.size + 1 + 1, 5, none⟩ (.slice none 0 0)) = wf at *
        obtain ⟨g0, g1, g2, g3, g4, g5⟩ := (show wf.cell? ⟨w.heap.size + 1 + 1, 0, none⟩ = some (.slice none 0 0) ∧ wf.cell? ⟨w.heap.size + 1 + 1, 1, none⟩ = some (.slice none 0 0) ∧ wf.cell? ⟨w.heap.size + 1 + 1, 2, none⟩ = some (.int .i64 0) ∧ wf.cell? ⟨w.heap.size + 1 + 1, 3, none⟩ = some (.int .i64 0) ∧ wf.cell? ⟨w.heap.size + 1 + 1, 4, none⟩ = some (.int .i64 0) ∧ wf.cell? ⟨w.heap.size + 1 + 1, 5, none⟩ = some (.slice none 0 0) from ⟨kf.cell 0, kf.cell 1, kf.cell 2, kf.cell 3, kf.cell 4, kf.cell 5⟩)
        refine bodyPost_ret (v := .tuple #[.agg #[.slice none 0 0, .slice none 0 0, .int .i64 0, .int .i64 0, .int .i64 0, .slice none 0 0], .int .i64 3]) (by simp [results, Tryd.results24, go_sem, g0, g1, g2, g3, g4, g5]) rfl ?_
        rw [HV.out]
        exact ⟨⟨zeroSkn, rfl, zero_is _, zero_fresh _, fun h0 => absurd h0 (by decide), fun _ => rfl⟩, HB10.out.trans (ht.below HB10.out.size (fun k e => by rw [show k = w.heap.size + 1 + 1 from e]; omega))⟩
      have h40' : ¬ (40 : Int) < (I.length : Int) := by omega
      have HF := Lib.hid (show ¬ 40 < (insR ⟨p, saidM r n⟩ S.ms).length by rw [HX3.out, ← HI.out]; exact h40)
      clear h40
      go_wp2_with fail
      have hC := refCheck_any ⟨a1, c1, S.pts, a2, c2, S.hs, S.steep, S.th, b, d, I⟩ w10 HTI.out
      simp only at hC
      refine hC.mono ?_
      clear hC
      rintro e w11 ⟨rfl, hb⟩
      clear s0 s1 s2 s3 s4 s5 l1 p0 p1 l2 x0 x1 l4 h40'
      have K111 := Lib.hid (K110.out.belowS hb)
      have K211 := Lib.hid (K210.out.belowS hb)
      have K311 := Lib.hid (K310.out.belowS hb)
      have K411 := Lib.hid (K410.out.belowS hb)
      have HB11 := Lib.hid (HB10.out.trans (hb.mono HB10.out.size))
      have HTI2 := Lib.hid (HTI.out.below hb)
      clear hb K110 K210 K310 K410
      obtain ⟨E, hE⟩ : ∃ E, skinE ⟨a1, c1, S.pts, a2, c2, S.hs, S.steep, S.th, b, d, I⟩ = E := ⟨_, rfl⟩
      rw [hE]
      obtain ⟨s0, s1, s2, s3, s4, s5⟩ := (show w11.cell? ⟨w.heap.size, 0, none⟩ = some (.slice a1 S.pts.length c1) ∧ w11.cell? ⟨w.heap.size, 1, none⟩ = some (.slice a2 S.hs.length c2) ∧ w11.cell? ⟨w.heap.size, 2, none⟩ = some (.int .i64 S.steep) ∧ w11.cell? ⟨w.heap.size, 3, none⟩ = some (.int .i64 S.th.lo) ∧ w11.cell? ⟨w.heap.size, 4, none⟩ = some (.int .i64 S.th.hi) ∧ w11.cell? ⟨w.heap.size, 5, none⟩ = some (.slice b I.length d) from ⟨K111.out.cell 0, K111.out.cell 1, K111.out.cell 2, K111.out.cell 3, K111.out.cell 4, K111.out.cell 5⟩)
      have l1 := K111.out.lt
      obtain ⟨p0, p1⟩ := pnt_cells K211.out
      have l2 := K211.out.lt
      obtain ⟨x0, x1⟩ := spn_cells K411.out
      have l4 := K411.out.lt
      by_cases hz : E = 0
      rotate_left
      · have HV := Lib.hid (show probeE S p r n = 10 from twin_clash (T := ⟨a1, c1, S.pts, a2, c2, S.hs, S.steep, S.th, b, d, I⟩) HPO.out HR.out HF.out rfl rfl rfl rfl (by rw [HX3.out]; exact HI.out) (by rw [hE]; exact hz))
        have hzb : (E == 0) = false := by rw [beq_eq_false_iff_ne]; exact hz
        have hzn : (E != 0) = true := by simp [hz]
        clear hE
        obtain ⟨r0, r1, r2, r3, r4, r5⟩ := (show w11.cell? ⟨w.heap.size + 1 + 1, 0, none⟩ = some (.slice none 0 0) ∧ w11.cell? ⟨w.heap.size + 1 + 1, 1, none⟩ = some (.slice none 0 0) ∧ w11.cell? ⟨w.heap.size + 1 + 1, 2, none⟩ = some (.int .i64 0) ∧ w11.cell? ⟨w.heap.size + 1 + 1, 3, none⟩ = some (.int .i64 0) ∧ w11.cell? ⟨w.heap.size + 1 + 1, 4, none⟩ = some (.int .i64 0) ∧ w11.cell? ⟨w.heap.size + 1 + 1, 5, none⟩ = some (.slice none 0 0) from ⟨K311.out.cell 0, K311.out.cell 1, K311.out.cell 2, K311.out.cell 3, K311.out.cell 4, K311.out.cell 5⟩)
        have l3 := K311.out.lt
        have z0 := K311.out.frozen 0
        have z1 := K311.out.frozen 1
        have z2 := K311.out.frozen 2
        have z3 := K311.out.frozen 3
        have z4 := K311.out.frozen 4
        have z5 := K311.out.frozen 5
        go_wp2_with fail
        have kf : Blk ((((((w11.setCell ⟨w.heap.size + 1 + 1, 0, none⟩ (.slice none 0 0)).setCell ⟨w.heap.size + 1 + 1, 1, none⟩ (.slice none 0 0)).setCell ⟨w.heap.size + 1 + 1, 2, none⟩ (.int .i64 0)).setCell ⟨w.heap.size + 1 + 1, 3, none⟩ (.int .i64 0)).setCell ⟨w.heap.size + 1 + 1, 4, none⟩ (.int .i64 0)).setCell ⟨w.heap.size + 1 + 1, 5, none⟩ (.slice none 0 0)) (w.heap.size + 1 + 1) #[.slice none 0 0, .slice none 0 0, .int .i64 0, .int .i64 0, .int .i64 0, .slice none 0 0] 30 := ((((((K311.out.set 0 (.slice none 0 0)).set 1 (.slice none 0 0)).set 2 (.int .i64 0)).set 3 (.int .i64 0)).set 4 (.int .i64 0)).set 5 (.slice none 0 0))
        have ht : Turn (fun k => k = w.heap.size + 1 + 1) w11 ((((((w11.setCell ⟨w.heap.size + 1 + 1, 0, none⟩ (.slice none 0 0)).setCell ⟨w.heap.size + 1 + 1, 1, none⟩ (.slice none 0 0)).setCell ⟨w.heap.size + 1 + 1, 2, none⟩ (.int .i64 0)).setCell ⟨w.heap.size + 1 + 1, 3, none⟩ (.int .i64 0)).setCell ⟨w.heap.size + 1 + 1, 4, none⟩ (.int .i64 0)).setCell ⟨w.heap.size + 1 + 1, 5, none⟩ (.slice none 0 0)) := (((((((Turn.of_below (X := fun k => k = w.heap.size + 1 + 1) (Below.refl _ w11)).setCell (B := w.heap.size + 1 + 1) rfl 0 (.slice none 0 0)).setCell (B := w.heap.size + 1 + 1) rfl 1 (.slice none 0 0)).setCell (B := w.heap.size + 1 + 1) rfl 2 (.int .i64 0)).setCell (B := w.heap.size + 1 + 1) rfl 3 (.int .i64 0)).setCell (B := w.heap.size + 1 + 1) rfl 4 (.int .i64 0)).setCell (B := w.heap.size + 1 + 1) rfl 5 (.slice none 0 0))
        generalize ((((((w11.setCell ⟨w.heap.size + 1 + 1, 0, none⟩ (.slice none 0 0)).setCell ⟨w.heap.size + 1 + 1, 1, none⟩ (.slice none 0 0)).setCell ⟨w.heap.size + 1 + 1, 2, none⟩ (.int .i64 0)).setCell ⟨w.heap.size + 1 + 1, 3, none⟩ (.int .i64 0)).setCell ⟨w.heap.size + 1 + 1, 4, none⟩ (.int .i64 0)).setCell ⟨w.heap.size + 1 + 1, 5, none⟩ (.slice none 0 0)) = wf at *
        obtain ⟨g0, g1, g2, g3, g4, g5⟩ := (show wf.cell? ⟨w.heap.size + 1 + 1, 0, none⟩ = some (.slice none 0 0) ∧ wf.cell? ⟨w.heap.size + 1 + 1, 1, none⟩ = some (.slice none 0 0) ∧ wf.cell? ⟨w.heap.size + 1 + 1, 2, none⟩ = some (.int .i64 0) ∧ wf.cell? ⟨w.heap.size + 1 + 1, 3, none⟩ = some (.int .i64 0) ∧ wf.cell? ⟨w.heap.size + 1 + 1, 4, none⟩ = some (.int .i64 0) ∧ wf.cell? ⟨w.heap.size + 1 + 1, 5, none⟩ = some (.slice none 0 0) from ⟨kf.cell 0, kf.cell 1, kf.cell 2, kf.cell 3, kf.cell 4, kf.cell 5⟩)
        refine bodyPost_ret (v := .tuple #[.agg #[.slice none 0 0, .slice none 0 0, .int .i64 0, .int .i64 0, .int .i64 0, .slice none 0 0], .int .i64 10]) (by simp [results, Tryd.results24, go_sem, g0, g1, g2, g3, g4, g5]) rfl ?_
        rw [HV.out]
        exact ⟨⟨zeroSkn, rfl, zero_is _, zero_fresh _, fun h0 => absurd h0 (by decide), fun _ => rfl⟩, HB11.out.trans (ht.below HB11.out.size (fun k e => by rw [show k = w.heap.size + 1 + 1 from e]; omega))⟩
      subst hz
      have HV := Lib.hid (twin_good (T := ⟨a1, c1, S.pts, a2, c2, S.hs, S.steep, S.th, b, d, I⟩) HPO.out HR.out HF.out rfl rfl rfl rfl (by rw [HX3.out]; exact HI.out) hE)
      clear hE
      obtain ⟨r0, r1, r2, r3, r4, r5⟩ := (show w11.cell? ⟨w.heap.size + 1 + 1, 0, none⟩ = some (.slice none 0 0) ∧ w11.cell? ⟨w.heap.size + 1 + 1, 1, none⟩ = some (.slice none 0 0) ∧ w11.cell? ⟨w.heap.size + 1 + 1, 2, none⟩ = some (.int .i64 0) ∧ w11.cell? ⟨w.heap.size + 1 + 1, 3, none⟩ = some (.int .i64 0) ∧ w11.cell? ⟨w.heap.size + 1 + 1, 4, none⟩ = some (.int .i64 0) ∧ w11.cell? ⟨w.heap.size + 1 + 1, 5, none⟩ = some (.slice none 0 0) from ⟨K311.out.cell 0, K311.out.cell 1, K311.out.cell 2, K311.out.cell 3, K311.out.cell 4, K311.out.cell 5⟩)
      have l3 := K311.out.lt
      have z0 := K311.out.frozen 0
      have z1 := K311.out.frozen 1
      have z2 := K311.out.frozen 2
      have z3 := K311.out.frozen 3
      have z4 := K311.out.frozen 4
      have z5 := K311.out.frozen 5
      go_wp2_with fail
      have kf : Blk ((((((w11.setCell ⟨w.heap.size + 1 + 1, 0, none⟩ (.slice a1 S.pts.length c1)).setCell ⟨w.heap.size + 1 + 1, 1, none⟩ (.slice a2 S.hs.length c2)).setCell ⟨w.heap.size + 1 + 1, 2, none⟩ (.int .i64 S.steep)).setCell ⟨w.heap.size + 1 + 1, 3, none⟩ (.int .i64 S.th.lo)).setCell ⟨w.heap.size + 1 + 1, 4, none⟩ (.int .i64 S.th.hi)).setCell ⟨w.heap.size + 1 + 1, 5, none⟩ (.slice b I.length d)) (w.heap.size + 1 + 1) #[.slice a1 S.pts.length c1, .slice a2 S.hs.length c2, .int .i64 S.steep, .int .i64 S.th.lo, .int .i64 S.th.hi, .slice b I.length d] 30 := ((((((K311.out.set 0 (.slice a1 S.pts.length c1)).set 1 (.slice a2 S.hs.length c2)).set 2 (.int .i64 S.steep)).set 3 (.int .i64 S.th.lo)).set 4 (.int .i64 S.th.hi)).set 5 (.slice b I.length d))
      have ht : Turn (fun k => k = w.heap.size + 1 + 1) w11 ((((((w11.setCell ⟨w.heap.size + 1 + 1, 0, none⟩ (.slice a1 S.pts.length c1)).setCell ⟨w.heap.size + 1 + 1, 1, none⟩ (.slice a2 S.hs.length c2)).setCell ⟨w.heap.size + 1 + 1, 2, none⟩ (.int .i64 S.steep)).setCell ⟨w.heap.size + 1 + 1, 3, none⟩ (.int .i64 S.th.lo)).setCell ⟨w.heap.size + 1 + 1, 4, none⟩ (.int .i64 S.th.hi)).setCell ⟨w.heap.size + 1 + 1, 5, none⟩ (.slice b I.length d)) := (((((((Turn.of_below (X := fun k => k = w.heap.size + 1 + 1) (Below.refl _ w11)).setCell (B := w.heap.size + 1 + 1) rfl 0 (.slice a1 S.pts.length c1)).setCell (B := w.heap.size + 1 + 1) rfl 1 (.slice a2 S.hs.length c2)).setCell (B := w.heap.size + 1 + 1) rfl 2 (.int .i64 S.steep)).setCell (B := w.heap.size + 1 + 1) rfl 3 (.int .i64 S.th.lo)).setCell (B := w.heap.size + 1 + 1) rfl 4 (.int .i64 S.th.hi)).setCell (B := w.heap.size + 1 + 1) rfl 5 (.slice b I.length d))
      generalize ((((((w11.setCell ⟨w.heap.size + 1 + 1, 0, none⟩ (.slice a1 S.pts.length c1)).setCell ⟨w.heap.size + 1 + 1, 1, none⟩ (.slice a2 S.hs.length c2)).setCell ⟨w.heap.size + 1 + 1, 2, none⟩ (.int .i64 S.steep)).setCell ⟨w.heap.size + 1 + 1, 3, none⟩ (.int .i64 S.th.lo)).setCell ⟨w.heap.size + 1 + 1, 4, none⟩ (.int .i64 S.th.hi)).setCell ⟨w.heap.size + 1 + 1, 5, none⟩ (.slice b I.length d)) = wf at *
      obtain ⟨g0, g1, g2, g3, g4, g5⟩ := (show wf.cell? ⟨w.heap.size + 1 + 1, 0, none⟩ = some (.slice a1 S.pts.length c1) ∧ wf.cell? ⟨w.heap.size + 1 + 1, 1, none⟩ = some (.slice a2 S.hs.length c2) ∧ wf.cell? ⟨w.heap.size + 1 + 1, 2, none⟩ = some (.int .i64 S.steep) ∧ wf.cell? ⟨w.heap.size + 1 + 1, 3, none⟩ = some (.int .i64 S.th.lo) ∧ wf.cell? ⟨w.heap.size + 1 + 1, 4, none⟩ = some (.int .i64 S.th.hi) ∧ wf.cell? ⟨w.heap.size + 1 + 1, 5, none⟩ = some (.slice b I.length d) from ⟨kf.cell 0, kf.cell 1, kf.cell 2, kf.cell 3, kf.cell 4, kf.cell 5⟩)
      refine bodyPost_ret (v := .tuple #[.agg #[.slice a1 S.pts.length c1, .slice a2 S.hs.length c2, .int .i64 S.steep, .int .i64 S.th.lo, .int .i64 S.th.hi, .slice b I.length d], .int .i64 0]) (by simp [results, Tryd.results24, go_sem, g0, g1, g2, g3, g4, g5]) rfl ?_
      rw [HV.out.1]
      refine ⟨⟨⟨a1, c1, S.pts, a2, c2, S.hs, S.steep, S.th, b, d, I⟩, rfl, HTI2.out.turn ht (fun x hx => ?_), HFR.out, fun _ => HV.out.2, fun h0 => absurd rfl h0⟩, HB11.out.trans (ht.below HB11.out.size (fun k e => by rw [show k = w.heap.size + 1 + 1 from e]; omega))⟩
      have h3 := HLT.out
      rcases hx with hx | hx | hx
      · have := (HFAR.out x (.inl hx)).1; intro e; have := (show x.block = w.heap.size + 1 + 1 from e); omega
      · have := (HFAR.out x (.inr hx)).1; intro e; have := (show x.block = w.heap.size + 1 + 1 from e); omega
      · have := HBX.out x hx; have := HLT6.out; intro e; have := (show x.block = w.heap.size + 1 + 1 from e); omega
  have hlj' : (j : Int) < (S.ms.length : Int) := by omega
  have hj0 : (0 : Int) ≤ (j : Int) := Int.natCast_nonneg _
  have hq : S.ms[j]? = some S.ms[j] := List.getElem?_eq_getElem hlj
  have hjs : IntKind.i64.wrap ((j : Int) + 1) = ((j + 1 : Nat) : Int) := by have := HG.out.few; rw [IntKind.wrap_i64]; omega
  obtain ⟨b, off, hea, hbl, hcap, hcx, y0, y1, y2, y3⟩ := (HMK6.out.below HB67.out).at hq
  have HST := Lib.hid (runP_succ ⟨p, X⟩ S.ms j _ hq)
  generalize S.ms[j] = m at *
  simp only [mrkC, List.getElem?_toArray, List.getElem?_cons_zero, List.getElem?_cons_succ] at y0 y1 y2 y3
  rw [hea] at s5
  have HLJ := Lib.hid hlj
  have kM := Blk.new w7 61 #[.int .i64 m.at_.x, .int .i64 m.at_.y, .int .i64 m.th.lo, .int .i64 m.th.hi]
  have hb8 : Below w7.heap.size w7 (w7.alloc (.cells #[.int .i64 m.at_.x, .int .i64 m.at_.y, .int .i64 m.th.lo, .int .i64 m.th.hi] 61)) := (Below.refl _ w7).alloc (Nat.le_refl _) _
  clear hq hj hlj hea
  go_upto_region 17 with fail
  clear y0 y1 y2 y3 hbl hcap hcx
  clear s0 s1 s2 s3 s4 s5 l1 p0 p1 l2 x0 x1 l4
  have K18 := Lib.hid (K17.out.belowS hb8)
  have K28 := Lib.hid (K27.out.belowS hb8)
  have K38 := Lib.hid (K37.out.belowS hb8)
  have K48 := Lib.hid (K47.out.belowS hb8)
  have HB68 := Lib.hid (HB67.out.trans (hb8.mono HB67.out.size))
  have HOW8 := Lib.hid (own_below HOW7.out hb8)
  have HSZ := Lib.hid hb8.size
  generalize w7.alloc (.cells #[.int .i64 m.at_.x, .int .i64 m.at_.y, .int .i64 m.th.lo, .int .i64 m.th.hi] 61) = w8 at *
  obtain ⟨bm, hbm⟩ : ∃ bm, bm = w7.heap.size := ⟨_, rfl⟩
  rw [← hbm] at kM ⊢
  have HBM := Lib.hid (show w6.heap.size ≤ bm by rw [hbm]; exact HB67.out.size)
  have HNB := Lib.hid (show ∀ k, (Value.slice a L.length c).ownBlock = some k → k < bm from fun k hk => by rw [hbm]; exact (HOW7.out.lt k hk).2)
  clear hbm hb8 K17 K27 K37 K47 HB7 HOW7 HB67
  have KM8 := Lib.hid kM
  clear kM
  obtain ⟨m0, m1, m2, m3⟩ := (show w8.cell? ⟨bm, 0, none⟩ = some (.int .i64 m.at_.x) ∧ w8.cell? ⟨bm, 1, none⟩ = some (.int .i64 m.at_.y) ∧ w8.cell? ⟨bm, 2, none⟩ = some (.int .i64 m.th.lo) ∧ w8.cell? ⟨bm, 3, none⟩ = some (.int .i64 m.th.hi) from ⟨KM8.out.cell 0, KM8.out.cell 1, KM8.out.cell 2, KM8.out.cell 3⟩)
  have lm := KM8.out.lt
  have zm2 := KM8.out.frozen 2
  have zm3 := KM8.out.frozen 3
  obtain ⟨p0, p1⟩ := pnt_cells K28.out
  have l2 := K28.out.lt
  obtain ⟨x0, x1⟩ := spn_cells K48.out
  have l4 := K48.out.lt
  have he : ∀ w, (Op.equalIn 10000 45 (.agg #[.int .i64 m.at_.x, .int .i64 m.at_.y]) (.agg #[.int .i64 p.x, .int .i64 p.y])).run Tryd.prog w = .ok (decide (m.at_ = p)) w := fun w => run_equalIn_at 9998 m.at_ p w
  by_cases hq : m.at_ = p
  · rw [decide_eq_true hq] at he
    have HS1 := Lib.hid (show stepP ⟨p, X⟩ (L, D) m = (L ++ [⟨m.at_, rawJ m.th X⟩], true) by unfold stepP; dsimp only; rw [if_pos hq])
    clear hq
    go_upto_region 23 with fail
    have kf : Blk ((w8.setCell ⟨bm, 2, none⟩ (.int .i64 (max m.th.lo X.lo))).setCell ⟨bm, 3, none⟩ (.int .i64 (min m.th.hi X.hi))) bm #[.int .i64 m.at_.x, .int .i64 m.at_.y, .int .i64 (max m.th.lo X.lo), .int .i64 (min m.th.hi X.hi)] 61 := (KM8.out.set 2 _).set 3 _
    have ht : Turn (fun k => k = bm) w8 ((w8.setCell ⟨bm, 2, none⟩ (.int .i64 (max m.th.lo X.lo))).setCell ⟨bm, 3, none⟩ (.int .i64 (min m.th.hi X.hi))) := ((Turn.of_below (X := fun k => k = bm) (Below.refl _ w8)).setCell (B := bm) rfl 2 _).setCell (B := bm) rfl 3 _
    generalize (w8.setCell ⟨bm, 2, none⟩ (.int .i64 (max m.th.lo X.lo))).setCell ⟨bm, 3, none⟩ (.int .i64 (min m.th.hi X.hi)) = w9 at *
    clear he m0 m1 m2 m3 lm zm2 zm3 p0 p1 l2 x0 x1 l4
    obtain ⟨m0, m1, m2, m3⟩ := (show w9.cell? ⟨bm, 0, none⟩ = some (.int .i64 m.at_.x) ∧ w9.cell? ⟨bm, 1, none⟩ = some (.int .i64 m.at_.y) ∧ w9.cell? ⟨bm, 2, none⟩ = some (.int .i64 (max m.th.lo X.lo)) ∧ w9.cell? ⟨bm, 3, none⟩ = some (.int .i64 (min m.th.hi X.hi)) from ⟨kf.cell 0, kf.cell 1, kf.cell 2, kf.cell 3⟩)
    have lm := kf.lt
    have HB69 := Lib.hid (HB68.out.trans (ht.below HB68.out.size (fun k e => by rw [show k = bm from e]; exact HBM.out)))
    have HOW9 := Lib.hid (show w9.ownsRow w6.heap.size 61 4 (.slice a L.length c) L.length (L.flatMap mrkL) from own_turnM HOW8.out ht (fun k hk e => by have := HNB.out k hk; have := (show k = bm from e); omega))
    clear kf ht
    have hbE : Below w9.heap.size w9 (w9.alloc (.cells #[.int .i64 m.at_.x, .int .i64 m.at_.y, .int .i64 (max m.th.lo X.lo), .int .i64 (min m.th.hi X.hi)] 61)) := (Below.refl _ w9).alloc (Nat.le_refl _) _
    have HOE := Lib.hid (own_below HOW9.out hbE)
    have HBE := Lib.hid (HB69.out.trans (hbE.mono HB69.out.size))
    have HNE := Lib.hid (show ∀ j u, ([.int .i64 m.at_.x, .int .i64 m.at_.y, .int .i64 (max m.th.lo X.lo), .int .i64 (min m.th.hi X.hi)] : List Value)[j]? = some u → (w9.alloc (.cells #[.int .i64 m.at_.x, .int .i64 m.at_.y, .int .i64 (max m.th.lo X.lo), .int .i64 (min m.th.hi X.hi)] 61)).cell? ((⟨w9.heap.size, 0, none⟩ : Addr).add j) = some u from fun j u hu => by
      rw [addr_zeroU, (Blk.new w9 61 #[.int .i64 m.at_.x, .int .i64 m.at_.y, .int .i64 (max m.th.lo X.lo), .int .i64 (min m.th.hi X.hi)]).cell]
      simpa using hu)
    have HONE := Lib.hid (show ∀ u ∈ ([.int .i64 m.at_.x, .int .i64 m.at_.y, .int .i64 (max m.th.lo X.lo), .int .i64 (min m.th.hi X.hi)] : List Value), u.oneCell' = true from fun u hu => by
      simp only [List.mem_cons, List.not_mem_nil, or_false] at hu
      rcases hu with rfl | rfl | rfl | rfl <;> rfl)
    have HBS := Lib.hid (show w6.heap.size ≤ (w9.alloc (.cells #[.int .i64 m.at_.x, .int .i64 m.at_.y, .int .i64 (max m.th.lo X.lo), .int .i64 (min m.th.hi X.hi)] 61)).heap.size from HBE.out.size)
    have HBW := Lib.hid hbE
    clear hbE
    go_wp2_with (at_builtin; refine wpList_append_lies _ rfl _ _ 28 rfl w6.heap.size 61 i0 (.agg #[.int .i64 0, .int .i64 0, .int .i64 0, .int .i64 0]) 4 32 Tryd.underlying28 hi hz0 hz1 hz2 rfl (by decide) (.slice a L.length c) L.length (L.flatMap mrkL) rfl HOE.out ⟨w9.heap.size, 0, none⟩ 1 1 [.int .i64 m.at_.x, .int .i64 m.at_.y, .int .i64 (max m.th.lo X.lo), .int .i64 (min m.th.hi X.hi)] rfl rfl HNE.out HONE.out (by decide) (by have := HLL.out; unfold maxLen; omega) (by have := HLL.out; omega) HBS.out _ rfl ?_; intro g cap w10 howo hgrow hat hlto; have HOO := Lib.hid howo; have HGO := Lib.hid hgrow; clear howo hgrow hat hlto)
    have HOW10 := Lib.hid (own_append (m := (⟨m.at_, rawJ m.th X⟩ : Mrk)) HOO.out)
    have HB610 := Lib.hid (HBE.out.grown HGO.out HBE.out.size (fun k e => (HOW9.out.lt k e).1))
    clear HOO HGO HOE HNE HONE HBS HBE HBW
    exact ⟨⟨j + 1, L ++ [⟨m.at_, rawJ m.th X⟩], true, some ⟨g, 0, none⟩, cap, by have := HLJ.out; omega, by rw [HST.out, ← HF7.out, HS1.out], rfl, rfl, by simp, HOW10.out, HB610.out⟩, by have := HLJ.out; simp [intOf]; omega⟩
  rw [decide_eq_false hq] at he
  have HQ := Lib.hid hq
  clear hq
  cases D with
  | true =>
    have HS1 := Lib.hid (show stepP ⟨p, X⟩ (L, true) m = (L ++ [m], true) by unfold stepP; dsimp only; rw [if_neg HQ.out, if_neg (by simp)])
    go_upto_region 23 with fail
    clear he
    have hbE : Below w8.heap.size w8 (w8.alloc (.cells #[.int .i64 m.at_.x, .int .i64 m.at_.y, .int .i64 m.th.lo, .int .i64 m.th.hi] 61)) := (Below.refl _ w8).alloc (Nat.le_refl _) _
    have HOE := Lib.hid (own_below HOW8.out hbE)
    have HBE := Lib.hid (HB68.out.trans (hbE.mono HB68.out.size))
    have HNE := Lib.hid (show ∀ j u, ([.int .i64 m.at_.x, .int .i64 m.at_.y, .int .i64 m.th.lo, .int .i64 m.th.hi] : List Value)[j]? = some u → (w8.alloc (.cells #[.int .i64 m.at_.x, .int .i64 m.at_.y, .int .i64 m.th.lo, .int .i64 m.th.hi] 61)).cell? ((⟨w8.heap.size, 0, none⟩ : Addr).add j) = some u from fun j u hu => by
      rw [addr_zeroU, (Blk.new w8 61 #[.int .i64 m.at_.x, .int .i64 m.at_.y, .int .i64 m.th.lo, .int .i64 m.th.hi]).cell]
      simpa using hu)
    have HONE := Lib.hid (show ∀ u ∈ ([.int .i64 m.at_.x, .int .i64 m.at_.y, .int .i64 m.th.lo, .int .i64 m.th.hi] : List Value), u.oneCell' = true from fun u hu => by
      simp only [List.mem_cons, List.not_mem_nil, or_false] at hu
      rcases hu with rfl | rfl | rfl | rfl <;> rfl)
    have HBS := Lib.hid (show w6.heap.size ≤ (w8.alloc (.cells #[.int .i64 m.at_.x, .int .i64 m.at_.y, .int .i64 m.th.lo, .int .i64 m.th.hi] 61)).heap.size from HBE.out.size)
    have HBW := Lib.hid hbE
    clear hbE
    go_wp2_with (at_builtin; refine wpList_append_lies _ rfl _ _ 28 rfl w6.heap.size 61 i0 (.agg #[.int .i64 0, .int .i64 0, .int .i64 0, .int .i64 0]) 4 32 Tryd.underlying28 hi hz0 hz1 hz2 rfl (by decide) (.slice a L.length c) L.length (L.flatMap mrkL) rfl HOE.out ⟨w8.heap.size, 0, none⟩ 1 1 [.int .i64 m.at_.x, .int .i64 m.at_.y, .int .i64 m.th.lo, .int .i64 m.th.hi] rfl rfl HNE.out HONE.out (by decide) (by have := HLL.out; unfold maxLen; omega) (by have := HLL.out; omega) HBS.out _ rfl ?_; intro g cap w10 howo hgrow hat hlto; have HOO := Lib.hid howo; have HGO := Lib.hid hgrow; clear howo hgrow hat hlto)
    have HOW10 := Lib.hid (own_append (m := m) HOO.out)
    have HB610 := Lib.hid (HBE.out.grown HGO.out HBE.out.size (fun k e => (HOW8.out.lt k e).1))
    clear HOO HGO HOE HNE HONE HBS HBE HBW
    exact ⟨⟨j + 1, L ++ [m], true, some ⟨g, 0, none⟩, cap, by have := HLJ.out; omega, by rw [HST.out, ← HF7.out, HS1.out], rfl, rfl, by simp, HOW10.out, HB610.out⟩, by have := HLJ.out; simp [intOf]; omega⟩
  | false =>
  go_wp2_with fail
  refine (refBehind_any m.at_ p _).mono ?_
  rintro e w9 ⟨rfl, hb⟩
  clear he m0 m1 m2 m3 lm zm2 zm3 p0 p1 l2 x0 x1 l4
  have HB69 := Lib.hid (HB68.out.trans (hb.mono HB68.out.size))
  have HOW9 := Lib.hid (own_below HOW8.out hb)
  have K29 := Lib.hid (K28.out.belowS hb)
  have K49 := Lib.hid (K48.out.belowS hb)
  have KM9 := Lib.hid (KM8.out.belowS hb)
  clear hb
  obtain ⟨m0, m1, m2, m3⟩ := (show w9.cell? ⟨bm, 0, none⟩ = some (.int .i64 m.at_.x) ∧ w9.cell? ⟨bm, 1, none⟩ = some (.int .i64 m.at_.y) ∧ w9.cell? ⟨bm, 2, none⟩ = some (.int .i64 m.th.lo) ∧ w9.cell? ⟨bm, 3, none⟩ = some (.int .i64 m.th.hi) from ⟨KM9.out.cell 0, KM9.out.cell 1, KM9.out.cell 2, KM9.out.cell 3⟩)
  have lm := KM9.out.lt
  obtain ⟨p0, p1⟩ := pnt_cells K29.out
  have l2 := K29.out.lt
  obtain ⟨x0, x1⟩ := spn_cells K49.out
  have l4 := K49.out.lt
  obtain ⟨bb, hbb⟩ : ∃ bb, decide (plt p m.at_) = bb := ⟨_, rfl⟩
  rw [hbb]
  cases bb with
  | false =>
    have HS1 := Lib.hid (show stepP ⟨p, X⟩ (L, false) m = (L ++ [m], false) by unfold stepP; dsimp only; rw [if_neg HQ.out, if_neg (fun h => of_decide_eq_false hbb h.2)])
    clear hbb
    have hbE : Below w9.heap.size w9 (w9.alloc (.cells #[.int .i64 m.at_.x, .int .i64 m.at_.y, .int .i64 m.th.lo, .int .i64 m.th.hi] 61)) := (Below.refl _ w9).alloc (Nat.le_refl _) _
    have HOE := Lib.hid (own_below HOW9.out hbE)
    have HBE := Lib.hid (HB69.out.trans (hbE.mono HB69.out.size))
    have HNE := Lib.hid (show ∀ j u, ([.int .i64 m.at_.x, .int .i64 m.at_.y, .int .i64 m.th.lo, .int .i64 m.th.hi] : List Value)[j]? = some u → (w9.alloc (.cells #[.int .i64 m.at_.x, .int .i64 m.at_.y, .int .i64 m.th.lo, .int .i64 m.th.hi] 61)).cell? ((⟨w9.heap.size, 0, none⟩ : Addr).add j) = some u from fun j u hu => by
      rw [addr_zeroU, (Blk.new w9 61 #[.int .i64 m.at_.x, .int .i64 m.at_.y, .int .i64 m.th.lo, .int .i64 m.th.hi]).cell]
      simpa using hu)
    have HONE := Lib.hid (show ∀ u ∈ ([.int .i64 m.at_.x, .int .i64 m.at_.y, .int .i64 m.th.lo, .int .i64 m.th.hi] : List Value), u.oneCell' = true from fun u hu => by
      simp only [List.mem_cons, List.not_mem_nil, or_false] at hu
      rcases hu with rfl | rfl | rfl | rfl <;> rfl)
    have HBS := Lib.hid (show w6.heap.size ≤ (w9.alloc (.cells #[.int .i64 m.at_.x, .int .i64 m.at_.y, .int .i64 m.th.lo, .int .i64 m.th.hi] 61)).heap.size from HBE.out.size)
    have HBW := Lib.hid hbE
    clear hbE
    go_wp2_with (at_builtin; refine wpList_append_lies _ rfl _ _ 28 rfl w6.heap.size 61 i0 (.agg #[.int .i64 0, .int .i64 0, .int .i64 0, .int .i64 0]) 4 32 Tryd.underlying28 hi hz0 hz1 hz2 rfl (by decide) (.slice a L.length c) L.length (L.flatMap mrkL) rfl HOE.out ⟨w9.heap.size, 0, none⟩ 1 1 [.int .i64 m.at_.x, .int .i64 m.at_.y, .int .i64 m.th.lo, .int .i64 m.th.hi] rfl rfl HNE.out HONE.out (by decide) (by have := HLL.out; unfold maxLen; omega) (by have := HLL.out; omega) HBS.out _ rfl ?_; intro g cap w10 howo hgrow hat hlto; have HOO := Lib.hid howo; have HGO := Lib.hid hgrow; clear howo hgrow hat hlto)
    have HOW10 := Lib.hid (own_append (m := m) HOO.out)
    have HB610 := Lib.hid (HBE.out.grown HGO.out HBE.out.size (fun k e => (HOW9.out.lt k e).1))
    clear HOO HGO HOE HNE HONE HBS HBE HBW
    exact ⟨⟨j + 1, L ++ [m], false, some ⟨g, 0, none⟩, cap, by have := HLJ.out; omega, by rw [HST.out, ← HF7.out, HS1.out], rfl, rfl, by simp, HOW10.out, HB610.out⟩, by have := HLJ.out; simp [intOf]; omega⟩
  | true =>
    have HS1 := Lib.hid (show stepP ⟨p, X⟩ (L, false) m = (L ++ [⟨p, X⟩] ++ [m], true) by unfold stepP; dsimp only; rw [if_neg HQ.out, if_pos ⟨rfl, of_decide_eq_true hbb⟩])
    clear hbb
    have hbE : Below w9.heap.size w9 (w9.alloc (.cells #[.int .i64 p.x, .int .i64 p.y, .int .i64 X.lo, .int .i64 X.hi] 61)) := (Below.refl _ w9).alloc (Nat.le_refl _) _
    have HOE := Lib.hid (own_below HOW9.out hbE)
    have HBE := Lib.hid (HB69.out.trans (hbE.mono HB69.out.size))
    have HNE := Lib.hid (show ∀ j u, ([.int .i64 p.x, .int .i64 p.y, .int .i64 X.lo, .int .i64 X.hi] : List Value)[j]? = some u → (w9.alloc (.cells #[.int .i64 p.x, .int .i64 p.y, .int .i64 X.lo, .int .i64 X.hi] 61)).cell? ((⟨w9.heap.size, 0, none⟩ : Addr).add j) = some u from fun j u hu => by
      rw [addr_zeroU, (Blk.new w9 61 #[.int .i64 p.x, .int .i64 p.y, .int .i64 X.lo, .int .i64 X.hi]).cell]
      simpa using hu)
    have HONE := Lib.hid (show ∀ u ∈ ([.int .i64 p.x, .int .i64 p.y, .int .i64 X.lo, .int .i64 X.hi] : List Value), u.oneCell' = true from fun u hu => by
      simp only [List.mem_cons, List.not_mem_nil, or_false] at hu
      rcases hu with rfl | rfl | rfl | rfl <;> rfl)
    have HBS := Lib.hid (show w6.heap.size ≤ (w9.alloc (.cells #[.int .i64 p.x, .int .i64 p.y, .int .i64 X.lo, .int .i64 X.hi] 61)).heap.size from HBE.out.size)
    have HBW := Lib.hid hbE
    clear hbE
    go_upto_region 22 with (at_builtin; refine wpList_append_lies _ rfl _ _ 28 rfl w6.heap.size 61 i0 (.agg #[.int .i64 0, .int .i64 0, .int .i64 0, .int .i64 0]) 4 32 Tryd.underlying28 hi hz0 hz1 hz2 rfl (by decide) (.slice a L.length c) L.length (L.flatMap mrkL) rfl HOE.out ⟨w9.heap.size, 0, none⟩ 1 1 [.int .i64 p.x, .int .i64 p.y, .int .i64 X.lo, .int .i64 X.hi] rfl rfl HNE.out HONE.out (by decide) (by have := HLL.out; unfold maxLen; omega) (by have := HLL.out; omega) HBS.out _ rfl ?_; intro g cap w10 howo hgrow hat hlto; have HOO := Lib.hid howo; have HGO := Lib.hid hgrow; clear howo hgrow hat hlto)
    have KMb := Lib.hid ((Turn.of_grown HGO.out).blk (KM9.out.belowS HBW.out) (fun e => by have := HNB.out bm e; omega))
    have HOW10 := Lib.hid (own_append (m := (⟨p, X⟩ : Mrk)) HOO.out)
    have HB610 := Lib.hid (HBE.out.grown HGO.out HBE.out.size (fun k e => (HOW9.out.lt k e).1))
    clear HOO HGO HOE HNE HONE HBS HBE HBW
    clear m0 m1 m2 m3 lm p0 p1 l2 x0 x1 l4
    obtain ⟨m0, m1, m2, m3⟩ := (show w10.cell? ⟨bm, 0, none⟩ = some (.int .i64 m.at_.x) ∧ w10.cell? ⟨bm, 1, none⟩ = some (.int .i64 m.at_.y) ∧ w10.cell? ⟨bm, 2, none⟩ = some (.int .i64 m.th.lo) ∧ w10.cell? ⟨bm, 3, none⟩ = some (.int .i64 m.th.hi) from ⟨KMb.out.cell 0, KMb.out.cell 1, KMb.out.cell 2, KMb.out.cell 3⟩)
    have lm := KMb.out.lt
    have hle : L.length + 1 = (L ++ [(⟨p, X⟩ : Mrk)]).length := by simp
    rw [hle]
    have HLL2 := Lib.hid (show (L ++ [(⟨p, X⟩ : Mrk)]).length ≤ 1001 by rw [← hle]; have := HLL.out; omega)
    generalize L ++ [(⟨p, X⟩ : Mrk)] = L2 at *
    obtain ⟨g2, hg2⟩ : ∃ g2 : Option Addr, g2 = some ⟨g, 0, none⟩ := ⟨_, rfl⟩
    rw [← hg2] at HOW10 ⊢
    obtain ⟨cap2, rfl⟩ : ∃ cap2 : Nat, cap2 = cap := ⟨_, rfl⟩
    clear hle HLL hg2
    have HLL := HLL2
    clear HLL2
    have hbE : Below w10.heap.size w10 (w10.alloc (.cells #[.int .i64 m.at_.x, .int .i64 m.at_.y, .int .i64 m.th.lo, .int .i64 m.th.hi] 61)) := (Below.refl _ w10).alloc (Nat.le_refl _) _
    have HOE := Lib.hid (own_below HOW10.out hbE)
    have HBE := Lib.hid (HB610.out.trans (hbE.mono HB610.out.size))
    have HNE := Lib.hid (show ∀ j u, ([.int .i64 m.at_.x, .int .i64 m.at_.y, .int .i64 m.th.lo, .int .i64 m.th.hi] : List Value)[j]? = some u → (w10.alloc (.cells #[.int .i64 m.at_.x, .int .i64 m.at_.y, .int .i64 m.th.lo, .int .i64 m.th.hi] 61)).cell? ((⟨w10.heap.size, 0, none⟩ : Addr).add j) = some u from fun j u hu => by
      rw [addr_zeroU, (Blk.new w10 61 #[.int .i64 m.at_.x, .int .i64 m.at_.y, .int .i64 m.th.lo, .int .i64 m.th.hi]).cell]
      simpa using hu)
    have HONE := Lib.hid (show ∀ u ∈ ([.int .i64 m.at_.x, .int .i64 m.at_.y, .int .i64 m.th.lo, .int .i64 m.th.hi] : List Value), u.oneCell' = true from fun u hu => by
      simp only [List.mem_cons, List.not_mem_nil, or_false] at hu
      rcases hu with rfl | rfl | rfl | rfl <;> rfl)
    have HBS := Lib.hid (show w6.heap.size ≤ (w10.alloc (.cells #[.int .i64 m.at_.x, .int .i64 m.at_.y, .int .i64 m.th.lo, .int .i64 m.th.hi] 61)).heap.size from HBE.out.size)
    have HBW := Lib.hid hbE
    clear hbE
    go_wp2_with (at_builtin; refine wpList_append_lies _ rfl _ _ 28 rfl w6.heap.size 61 i0 (.agg #[.int .i64 0, .int .i64 0, .int .i64 0, .int .i64 0]) 4 32 Tryd.underlying28 hi hz0 hz1 hz2 rfl (by decide) (.slice g2 L2.length cap2) L2.length (L2.flatMap mrkL) rfl HOE.out ⟨w10.heap.size, 0, none⟩ 1 1 [.int .i64 m.at_.x, .int .i64 m.at_.y, .int .i64 m.th.lo, .int .i64 m.th.hi] rfl rfl HNE.out HONE.out (by decide) (by have := HLL.out; unfold maxLen; omega) (by have := HLL.out; omega) HBS.out _ rfl ?_; intro g cap w11 howo hgrow hat hlto; have HOO := Lib.hid howo; have HGO := Lib.hid hgrow; clear howo hgrow hat hlto)
    have HOW11 := Lib.hid (own_append (m := m) HOO.out)
    have HB611 := Lib.hid (HBE.out.grown HGO.out HBE.out.size (fun k e => (HOW10.out.lt k e).1))
    clear HOO HGO HOE HNE HONE HBS HBE HBW
    exact ⟨⟨j + 1, L2 ++ [m], true, some ⟨g, 0, none⟩, cap, by have := HLJ.out; omega, by rw [HST.out, ← HF7.out, HS1.out], rfl, rfl, by simp, HOW11.out, HB611.out⟩, by have := HLJ.out; simp [intOf]; omega⟩
end Go.Proofs.YtoigihmgjacbjaaDoor
