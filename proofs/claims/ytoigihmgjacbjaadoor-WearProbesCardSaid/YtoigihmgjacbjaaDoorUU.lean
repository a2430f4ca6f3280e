/- WearProbes' walk. No condition but the package's variable. -/
import Derived.Test.YtoigihmgjacbjaaDoorUS
import Derived.Test.YtoigihmgjacbjaaDoorVJ
import Derived.Test.YtoigihmgjacbjaaDoorVB
set_option linter.unusedSimpArgs false
namespace Go.Proofs.YtoigihmgjacbjaaDoor
open Go.RowKit

theorem probed_alike {S A B : Skn} {x : Mrk} (h : Probed x S A) (k : Probed x S B) : Alike A B := ⟨k.pts.trans h.pts.symm, k.hs.trans h.hs.symm, k.steep.trans h.steep.symm, k.th.trans h.th.symm, k.ms.trans h.ms.symm⟩

set_option maxRecDepth 100000 in
set_option maxHeartbeats 16000000 in
theorem wearProbesLaw_any (S : Skn) (p : Pnt) (r n : Int) (w : World) (hS : IsSkn w S) (hg : Laid w) :
    Calls Tryd.prog 9 #[.agg #[.slice S.pa S.pts.length S.pc, .slice S.ha S.hs.length S.hc, .int .i64 S.steep, .int .i64 S.th.lo, .int .i64 S.th.hi, .slice S.ma S.ms.length S.mc], .agg #[.int .i64 p.x, .int .i64 p.y], .int .i64 r, .int .i64 n] w fun e w' => e = .returned (.bool true) ∧ Below w.heap.size w w' := by
  have k1 := (Blk.new w 30 #[.slice S.pa S.pts.length S.pc, .slice S.ha S.hs.length S.hc, .int .i64 S.steep, .int .i64 S.th.lo, .int .i64 S.th.hi, .slice S.ma S.ms.length S.mc]).alloc (.cells #[.int .i64 p.x, .int .i64 p.y] 45)
  have k2 := Blk.new (w.alloc (.cells #[.slice S.pa S.pts.length S.pc, .slice S.ha S.hs.length S.hc, .int .i64 S.steep, .int .i64 S.th.lo, .int .i64 S.th.hi, .slice S.ma S.ms.length S.mc] 30)) 45 #[.int .i64 p.x, .int .i64 p.y]
  rw [World.size_alloc] at k2
  have hb1 : Below w.heap.size w ((w.alloc (.cells #[.slice S.pa S.pts.length S.pc, .slice S.ha S.hs.length S.hc, .int .i64 S.steep, .int .i64 S.th.lo, .int .i64 S.th.hi, .slice S.ma S.ms.length S.mc] 30)).alloc (.cells #[.int .i64 p.x, .int .i64 p.y] 45)) := ((Below.refl _ w).alloc (Nat.le_refl _) _).alloc (by simp) _
  have HS := Lib.hid hS
  have HG := Lib.hid hg
  clear hS hg
  go_enter Tryd.func9, Tryd.ntmps9
  go_upto_region 1 with fail
  generalize ((w.alloc (.cells #[.slice S.pa S.pts.length S.pc, .slice S.ha S.hs.length S.hc, .int .i64 S.steep, .int .i64 S.th.lo, .int .i64 S.th.hi, .slice S.ma S.ms.length S.mc] 30)).alloc (.cells #[.int .i64 p.x, .int .i64 p.y] 45)) = w1 at *
  have K11 := Lib.hid k1
  have K21 := Lib.hid k2
  have HB1 := Lib.hid hb1
  clear k1 k2 hb1
  obtain ⟨s0, s1, s2, s3, s4, s5⟩ := skn_cells (S := S) K11.out
  have l1 := K11.out.lt
  obtain ⟨t0, t1⟩ := pnt_cells (s := p) K21.out
  have l2 := K21.out.lt
  go_wp2_with fail
  refine (great_any S _ (HS.out.below HB1.out)).mono ?_
  rintro e w2 ⟨⟨gb, rfl⟩, hb⟩
  clear s0 s1 s2 s3 s4 s5 l1 t0 t1 l2
  have K12 := Lib.hid (K11.out.belowS hb)
  have K22 := Lib.hid (K21.out.belowS hb)
  have HB2 := Lib.hid (HB1.out.trans (hb.mono HB1.out.size))
  clear hb K11 K21
  cases gb with
  | true =>
    go_wp2_with fail
    refine (lives_any _ (HG.out.below HB2.out)).mono ?_
    rintro e wz ⟨rfl, hbz⟩
    go_wp2_with fail
    go_ret
    exact ⟨rfl, HB2.out.trans (hbz.mono HB2.out.size)⟩
  | false =>
  obtain ⟨s0, s1, s2, s3, s4, s5⟩ := skn_cells (S := S) K12.out
  have l1 := K12.out.lt
  obtain ⟨t0, t1⟩ := pnt_cells (s := p) K22.out
  have l2 := K22.out.lt
  go_wp2_with fail
  refine (wearProbe_any S p r n _ (HS.out.below HB2.out) (HG.out.below HB2.out)).mono ?_
  rintro e w3 ⟨⟨A, rfl, hA, hFA, hPA, hZA⟩, hb⟩
  obtain ⟨E, hE⟩ : ∃ E, probeE S p r n = E := ⟨_, rfl⟩
  rw [hE] at hPA hZA ⊢
  have HE := Lib.hid hE
  have kA := Blk.new w3 30 #[.slice A.pa A.pts.length A.pc, .slice A.ha A.hs.length A.hc, .int .i64 A.steep, .int .i64 A.th.lo, .int .i64 A.th.hi, .slice A.ma A.ms.length A.mc]
  have hb4 : Below w3.heap.size w3 (w3.alloc (.cells #[.slice A.pa A.pts.length A.pc, .slice A.ha A.hs.length A.hc, .int .i64 A.steep, .int .i64 A.th.lo, .int .i64 A.th.hi, .slice A.ma A.ms.length A.mc] 30)) := (Below.refl _ w3).alloc (Nat.le_refl _) _
  have hb24 := hb.trans (hb4.mono hb.size)
  have K14 := Lib.hid (K12.out.belowS hb24)
  have K24 := Lib.hid (K22.out.belowS hb24)
  have HB4 := Lib.hid (HB2.out.trans (hb24.mono HB2.out.size))
  have HA := Lib.hid (hA.below hb4)
  have HPA := Lib.hid hPA
  have HZA := Lib.hid hZA
  clear s0 s1 s2 s3 s4 s5 l1 t0 t1 l2
  clear hb hb4 hb24 hA hFA hPA hZA hE K12 K22
  unfold sknC
  go_upto_region 4 with fail
  generalize w3.alloc (.cells #[.slice A.pa A.pts.length A.pc, .slice A.ha A.hs.length A.hc, .int .i64 A.steep, .int .i64 A.th.lo, .int .i64 A.th.hi, .slice A.ma A.ms.length A.mc] 30) = w4 at *
  obtain ⟨ba, hba⟩ : ∃ ba, ba = w3.heap.size := ⟨_, rfl⟩
  rw [← hba] at kA ⊢
  clear hba
  have KA4 := Lib.hid kA
  clear kA
  obtain ⟨s0, s1, s2, s3, s4, s5⟩ := skn_cells (S := S) K14.out
  have l1 := K14.out.lt
  obtain ⟨t0, t1⟩ := pnt_cells (s := p) K24.out
  have l2 := K24.out.lt
  go_wp2_with fail
  refine (refProbe_any S p r n _ (HS.out.below HB4.out)).mono ?_
  rintro e w5 ⟨⟨B, rfl, hB, hFB, hPB, hZB⟩, hb⟩
  rw [HE.out] at hPB hZB ⊢
  have kB := Blk.new w5 30 #[.slice B.pa B.pts.length B.pc, .slice B.ha B.hs.length B.hc, .int .i64 B.steep, .int .i64 B.th.lo, .int .i64 B.th.hi, .slice B.ma B.ms.length B.mc]
  have hb6 : Below w5.heap.size w5 (w5.alloc (.cells #[.slice B.pa B.pts.length B.pc, .slice B.ha B.hs.length B.hc, .int .i64 B.steep, .int .i64 B.th.lo, .int .i64 B.th.hi, .slice B.ma B.ms.length B.mc] 30)) := (Below.refl _ w5).alloc (Nat.le_refl _) _
  have hb46 := hb.trans (hb6.mono hb.size)
  have HB6 := Lib.hid (HB4.out.trans (hb46.mono HB4.out.size))
  have HA6 := Lib.hid (HA.out.below hb46)
  have KA6 := Lib.hid (KA4.out.belowS hb46)
  have HB' := Lib.hid (hB.below hb6)
  have HAL := Lib.hid (show Alike A B by
    by_cases h0 : E = 0
    · exact probed_alike (HPA.out h0) (hPB h0)
    · rw [HZA.out h0, hZB h0]
      exact Alike.refl _)
  clear s0 s1 s2 s3 s4 s5 l1 t0 t1 l2
  clear hb hb6 hb46 hB hFB hPB hZB K14 K24
  unfold sknC
  go_upto_region 5 with fail
  generalize w5.alloc (.cells #[.slice B.pa B.pts.length B.pc, .slice B.ha B.hs.length B.hc, .int .i64 B.steep, .int .i64 B.th.lo, .int .i64 B.th.hi, .slice B.ma B.ms.length B.mc] 30) = w6 at *
  obtain ⟨bb, hbb⟩ : ∃ bb, bb = w5.heap.size := ⟨_, rfl⟩
  rw [← hbb] at kB ⊢
  clear hbb
  have KB6 := Lib.hid kB
  clear kB
  obtain ⟨s0, s1, s2, s3, s4, s5⟩ := skn_cells (S := A) KA6.out
  have ls := KA6.out.lt
  obtain ⟨r0, r1, r2, r3, r4, r5⟩ := skn_cells (S := B) KB6.out
  have lr := KB6.out.lt
  have hee : (E == E) = true := by simp
  go_wp2_with fail
  refine (sameAlike_any A B _ HA6.out HB'.out HAL.out).mono ?_
  rintro e w7 ⟨rfl, hb⟩
  have HB7 := Lib.hid (HB6.out.trans (hb.mono HB6.out.size))
  clear s0 s1 s2 s3 s4 s5 ls r0 r1 r2 r3 r4 r5 lr
  clear hb
  go_wp2_with fail
  refine (lives_any _ (HG.out.below HB7.out)).mono ?_
  rintro e wz ⟨rfl, hbz⟩
  go_wp2_with fail
  go_ret
  exact ⟨rfl, HB7.out.trans (hbz.mono HB7.out.size)⟩
end Go.Proofs.YtoigihmgjacbjaaDoor
