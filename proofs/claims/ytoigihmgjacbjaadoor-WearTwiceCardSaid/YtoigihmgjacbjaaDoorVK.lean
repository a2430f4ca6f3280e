/- WearTwice's walk. No condition but the package's variable. -/
import Derived.Test.YtoigihmgjacbjaaDoorVJ
import Derived.Test.YtoigihmgjacbjaaDoorVB
set_option linter.unusedSimpArgs false
namespace Go.Proofs.YtoigihmgjacbjaaDoor
open Go.RowKit

structure Sea where
  t : Spn
  g : Int
  n : Int
theorem seasonE_zero (S : Skn) : seasonE S ⟨0, 0⟩ 0 = skinE S := by
  unfold seasonE
  by_cases h : skinE S = 0
  · have := (skinE_ok h).steep
    rw [if_neg (by rw [h]; decide), if_neg (by decide), if_neg (by omega), h]
  · rw [if_pos h]
/-- Behind two seasons that may be the one that takes both may be. -/
theorem season_sum {S A : Skn} {x y : Sea} (h1 : seasonE S x.t x.g = 0) (h2 : Behind x.t x.g S A) (h3 : seasonE A y.t y.g = 0) (h4 : x.t.hi + y.t.hi ≤ 2000) : seasonE S ⟨x.t.lo + y.t.lo, x.t.hi + y.t.hi⟩ (x.g + y.g) = 0 := by
  obtain ⟨a1, a2, a3, a4⟩ := seasonE_ok h1
  obtain ⟨b1, b2, b3, b4⟩ := seasonE_ok h3
  rw [isSpanB_iff] at a2 b2
  have := (skinE_ok a1).steep
  have hs := h2.steep
  exact seasonE_mk a1 (by rw [isSpanB_iff]; simp only; omega) (by omega) (by omega)

set_option maxRecDepth 100000 in
set_option maxHeartbeats 16000000 in
theorem wearTwiceLaw_any (S : Skn) (x y : Sea) (w : World) (hS : IsSkn w S) (hg : Laid w) :
    Calls Tryd.prog 3 #[.agg #[.slice S.pa S.pts.length S.pc, .slice S.ha S.hs.length S.hc, .int .i64 S.steep, .int .i64 S.th.lo, .int .i64 S.th.hi, .slice S.ma S.ms.length S.mc], .agg #[.int .i64 x.t.lo, .int .i64 x.t.hi, .int .i64 x.g, .int .i64 x.n], .agg #[.int .i64 y.t.lo, .int .i64 y.t.hi, .int .i64 y.g, .int .i64 y.n]] w fun e w' => e = .returned (.bool true) ∧ Below w.heap.size w w' := by
  have k1 := ((Blk.new w 30 #[.slice S.pa S.pts.length S.pc, .slice S.ha S.hs.length S.hc, .int .i64 S.steep, .int .i64 S.th.lo, .int .i64 S.th.hi, .slice S.ma S.ms.length S.mc]).alloc (.cells #[.int .i64 x.t.lo, .int .i64 x.t.hi, .int .i64 x.g, .int .i64 x.n] 32)).alloc (.cells #[.int .i64 y.t.lo, .int .i64 y.t.hi, .int .i64 y.g, .int .i64 y.n] 32)
  have k2 := (Blk.new (w.alloc (.cells #[.slice S.pa S.pts.length S.pc, .slice S.ha S.hs.length S.hc, .int .i64 S.steep, .int .i64 S.th.lo, .int .i64 S.th.hi, .slice S.ma S.ms.length S.mc] 30)) 32 #[.int .i64 x.t.lo, .int .i64 x.t.hi, .int .i64 x.g, .int .i64 x.n]).alloc (.cells #[.int .i64 y.t.lo, .int .i64 y.t.hi, .int .i64 y.g, .int .i64 y.n] 32)
  have k3 := Blk.new ((w.alloc (.cells #[.slice S.pa S.pts.length S.pc, .slice S.ha S.hs.length S.hc, .int .i64 S.steep, .int .i64 S.th.lo, .int .i64 S.th.hi, .slice S.ma S.ms.length S.mc] 30)).alloc (.cells #[.int .i64 x.t.lo, .int .i64 x.t.hi, .int .i64 x.g, .int .i64 x.n] 32)) 32 #[.int .i64 y.t.lo, .int .i64 y.t.hi, .int .i64 y.g, .int .i64 y.n]
  rw [World.size_alloc] at k2
  rw [World.size_alloc, World.size_alloc] at k3
  have hb1 : Below w.heap.size w (((w.alloc (.cells #[.slice S.pa S.pts.length S.pc, .slice S.ha S.hs.length S.hc, .int .i64 S.steep, .int .i64 S.th.lo, .int .i64 S.th.hi, .slice S.ma S.ms.length S.mc] 30)).alloc (.cells #[.int .i64 x.t.lo, .int .i64 x.t.hi, .int .i64 x.g, .int .i64 x.n] 32)).alloc (.cells #[.int .i64 y.t.lo, .int .i64 y.t.hi, .int .i64 y.g, .int .i64 y.n] 32)) := (((Below.refl _ w).alloc (Nat.le_refl _) _).alloc (by simp) _).alloc (by simp; omega) _
  have HS := Lib.hid hS
  have HG := Lib.hid hg
  clear hS hg
  go_enter Tryd.func3, Tryd.ntmps3
  go_upto_region 1 with fail
  generalize (((w.alloc (.cells #[.slice S.pa S.pts.length S.pc, .slice S.ha S.hs.length S.hc, .int .i64 S.steep, .int .i64 S.th.lo, .int .i64 S.th.hi, .slice S.ma S.ms.length S.mc] 30)).alloc (.cells #[.int .i64 x.t.lo, .int .i64 x.t.hi, .int .i64 x.g, .int .i64 x.n] 32)).alloc (.cells #[.int .i64 y.t.lo, .int .i64 y.t.hi, .int .i64 y.g, .int .i64 y.n] 32)) = w1 at *
  have K1 := Lib.hid k1
  have K2 := Lib.hid k2
  have K3 := Lib.hid k3
  have HB1 := Lib.hid hb1
  clear k1 k2 k3 hb1
  obtain ⟨s0, s1, s2, s3, s4, s5⟩ := skn_cells (S := S) K1.out
  have ls := K1.out.lt
  go_wp2_with fail
  refine (great_any S _ (HS.out.below HB1.out)).mono ?_
  rintro e w2 ⟨⟨gb, rfl⟩, hb⟩
  have HB2 := Lib.hid (HB1.out.trans (hb.mono HB1.out.size))
  have K12 := Lib.hid (K1.out.belowS hb)
  have K22 := Lib.hid (K2.out.belowS hb)
  have K32 := Lib.hid (K3.out.belowS hb)
  clear s0 s1 s2 s3 s4 s5 ls
  clear hb K1 K2 K3
  cases gb with
  | true =>
    go_wp2_with fail
    refine (lives_any _ (HG.out.below HB2.out)).mono ?_
    rintro e wz ⟨rfl, hbz⟩
    go_wp2_with fail
    go_ret
    exact ⟨rfl, HB2.out.trans (hbz.mono HB2.out.size)⟩
  | false =>
  obtain ⟨s0, s1, s2, s3, s4, s5⟩ := skn_cells (S := S) K12.out
  have ls := K12.out.lt
  go_wp2_with fail
  refine (wearSeason_any S ⟨0, 0⟩ 0 _ (HS.out.below HB2.out) (HG.out.below HB2.out)).mono ?_
  rintro e w3 ⟨⟨R, rfl, hR, hF, hP, hZ⟩, hb⟩
  rw [seasonE_zero] at hP ⊢
  obtain ⟨E, hE⟩ : ∃ E, skinE S = E := ⟨_, rfl⟩
  rw [hE] at hP ⊢
  have HE := Lib.hid hE
  have kR := Blk.new w3 30 #[.slice R.pa R.pts.length R.pc, .slice R.ha R.hs.length R.hc, .int .i64 R.steep, .int .i64 R.th.lo, .int .i64 R.th.hi, .slice R.ma R.ms.length R.mc]
  have hb4 : Below w3.heap.size w3 (w3.alloc (.cells #[.slice R.pa R.pts.length R.pc, .slice R.ha R.hs.length R.hc, .int .i64 R.steep, .int .i64 R.th.lo, .int .i64 R.th.hi, .slice R.ma R.ms.length R.mc] 30)) := (Below.refl _ w3).alloc (Nat.le_refl _) _
  have hb24 := hb.trans (hb4.mono hb.size)
  have HB4 := Lib.hid (HB2.out.trans (hb24.mono HB2.out.size))
  have K14 := Lib.hid (K12.out.belowS hb24)
  have K24 := Lib.hid (K22.out.belowS hb24)
  have K34 := Lib.hid (K32.out.belowS hb24)
  have HR := Lib.hid (hR.below hb4)
  have HP := Lib.hid hP
  clear s0 s1 s2 s3 s4 s5 ls
  clear hb hb4 hb24 hE hR hF hP hZ K12 K22 K32
  unfold sknC
  go_upto_region 4 with fail
  generalize w3.alloc (.cells #[.slice R.pa R.pts.length R.pc, .slice R.ha R.hs.length R.hc, .int .i64 R.steep, .int .i64 R.th.lo, .int .i64 R.th.hi, .slice R.ma R.ms.length R.mc] 30) = w4 at *
  have KR := Lib.hid kR
  clear kR
  by_cases hE0 : E = 0
  rotate_left
  · have e1 : (E == 0) = false := by rw [beq_eq_false_iff_ne]; exact hE0
    have e2 : (E != 0) = true := by simp [hE0]
    have e3 : (E == E) = true := by simp
    have HE3 := Lib.hid e3
    clear hE0 e3
    obtain ⟨s0, s1, s2, s3, s4, s5⟩ := skn_cells (S := S) K14.out
    have ls := K14.out.lt
    go_wp2_with fail
    refine (wearCheck_any S _ (HS.out.below HB4.out) (HG.out.below HB4.out)).mono ?_
    rintro e w5 ⟨rfl, hb⟩
    rw [HE.out]
    have e3 : (E == E) = true := HE3.out
    have HB5 := Lib.hid (HB4.out.trans (hb.mono HB4.out.size))
    clear s0 s1 s2 s3 s4 s5 ls
    clear hb
    go_wp2_with fail
    refine (lives_any _ (HG.out.below HB5.out)).mono ?_
    rintro e wz ⟨rfl, hbz⟩
    go_wp2_with fail
    go_ret
    exact ⟨rfl, HB5.out.trans (hbz.mono HB5.out.size)⟩
  subst hE0
  have HAL := Lib.hid (behind_zero (HP.out (by first | rfl | trivial)) HE.out)
  obtain ⟨s0, s1, s2, s3, s4, s5⟩ := skn_cells (S := S) K14.out
  have ls := K14.out.lt
  obtain ⟨r0, r1, r2, r3, r4, r5⟩ := skn_cells (S := R) KR.out
  have lr := KR.out.lt
  go_wp2_with fail
  refine (sameAlike_any S R _ (HS.out.below HB4.out) HR.out HAL.out).mono ?_
  rintro e w5 ⟨rfl, hb⟩
  have HB5 := Lib.hid (HB4.out.trans (hb.mono HB4.out.size))
  have K15 := Lib.hid (K14.out.belowS hb)
  have K25 := Lib.hid (K24.out.belowS hb)
  have K35 := Lib.hid (K34.out.belowS hb)
  clear s0 s1 s2 s3 s4 s5 ls r0 r1 r2 r3 r4 r5 lr
  clear hb HR HP HAL KR K14 K24 K34
  obtain ⟨s0, s1, s2, s3, s4, s5⟩ := skn_cells (S := S) K15.out
  have ls := K15.out.lt
  obtain ⟨x0, x1, x2, x3⟩ := (show w5.cell? ⟨w.heap.size + 1, 0, none⟩ = some (.int .i64 x.t.lo) ∧ w5.cell? ⟨w.heap.size + 1, 1, none⟩ = some (.int .i64 x.t.hi) ∧ w5.cell? ⟨w.heap.size + 1, 2, none⟩ = some (.int .i64 x.g) ∧ w5.cell? ⟨w.heap.size + 1, 3, none⟩ = some (.int .i64 x.n) from ⟨K25.out.cell 0, K25.out.cell 1, K25.out.cell 2, K25.out.cell 3⟩)
  have lx := K25.out.lt
  go_wp2_with fail
  refine (wearSeason_any S x.t x.g _ (HS.out.below HB5.out) (HG.out.below HB5.out)).mono ?_
  rintro e w6 ⟨⟨A, rfl, hA, hFA, hPA, hZA⟩, hb⟩
  obtain ⟨E1, hE1⟩ : ∃ E, seasonE S x.t x.g = E := ⟨_, rfl⟩
  rw [hE1] at hPA ⊢
  have HE1 := Lib.hid hE1
  have kA := Blk.new w6 30 #[.slice A.pa A.pts.length A.pc, .slice A.ha A.hs.length A.hc, .int .i64 A.steep, .int .i64 A.th.lo, .int .i64 A.th.hi, .slice A.ma A.ms.length A.mc]
  have hb7 : Below w6.heap.size w6 (w6.alloc (.cells #[.slice A.pa A.pts.length A.pc, .slice A.ha A.hs.length A.hc, .int .i64 A.steep, .int .i64 A.th.lo, .int .i64 A.th.hi, .slice A.ma A.ms.length A.mc] 30)) := (Below.refl _ w6).alloc (Nat.le_refl _) _
  have hb57 := hb.trans (hb7.mono hb.size)
  have HB7 := Lib.hid (HB5.out.trans (hb57.mono HB5.out.size))
  have K17 := Lib.hid (K15.out.belowS hb57)
  have K27 := Lib.hid (K25.out.belowS hb57)
  have K37 := Lib.hid (K35.out.belowS hb57)
  have HA := Lib.hid (hA.below hb7)
  have HK6 := Lib.hid (show w.heap.size + 1 + 1 < w6.heap.size from Nat.lt_of_lt_of_le K35.out.lt hb.size)
  have HPA := Lib.hid hPA
  clear s0 s1 s2 s3 s4 s5 ls x0 x1 x2 x3 lx
  clear hb hb7 hb57 hE1 hA hFA hPA hZA K15 K25 K35
  unfold sknC
  go_upto_region 7 with fail
  generalize w6.alloc (.cells #[.slice A.pa A.pts.length A.pc, .slice A.ha A.hs.length A.hc, .int .i64 A.steep, .int .i64 A.th.lo, .int .i64 A.th.hi, .slice A.ma A.ms.length A.mc] 30) = w7 at *
  have KA := Lib.hid kA
  clear kA
  by_cases hE0 : E1 = 0
  rotate_left
  · have e1 : (E1 == 0) = false := by rw [beq_eq_false_iff_ne]; exact hE0
    have e2 : (E1 != 0) = true := by simp [hE0]
    clear hE0
    go_wp2_with fail
    refine (lives_any _ (HG.out.below HB7.out)).mono ?_
    rintro e wz ⟨rfl, hbz⟩
    go_wp2_with fail
    go_ret
    exact ⟨rfl, HB7.out.trans (hbz.mono HB7.out.size)⟩
  subst hE0
  obtain ⟨r0, r1, r2, r3, r4, r5⟩ := skn_cells (S := A) KA.out
  have lr := KA.out.lt
  obtain ⟨y0, y1, y2, y3⟩ := (show w7.cell? ⟨w.heap.size + 1 + 1, 0, none⟩ = some (.int .i64 y.t.lo) ∧ w7.cell? ⟨w.heap.size + 1 + 1, 1, none⟩ = some (.int .i64 y.t.hi) ∧ w7.cell? ⟨w.heap.size + 1 + 1, 2, none⟩ = some (.int .i64 y.g) ∧ w7.cell? ⟨w.heap.size + 1 + 1, 3, none⟩ = some (.int .i64 y.n) from ⟨K37.out.cell 0, K37.out.cell 1, K37.out.cell 2, K37.out.cell 3⟩)
  have ly := K37.out.lt
  go_wp2_with fail
  refine (wearSeason_any A y.t y.g _ HA.out (HG.out.below HB7.out)).mono ?_
  rintro e w8 ⟨⟨B, rfl, hB, hFB, hPB, hZB⟩, hb⟩
  obtain ⟨E2, hE2⟩ : ∃ E, seasonE A y.t y.g = E := ⟨_, rfl⟩
  rw [hE2] at hPB ⊢
  have HE2 := Lib.hid hE2
  have HB8 := Lib.hid (HB7.out.trans (hb.mono HB7.out.size))
  have K18 := Lib.hid (K17.out.belowS hb)
  have K28 := Lib.hid (K27.out.belowS hb)
  have K38 := Lib.hid (K37.out.belowS hb)
  have KA8 := Lib.hid (KA.out.belowS hb)
  have HFB := Lib.hid hFB
  have HBB := Lib.hid hB
  have HPB := Lib.hid hPB
  have HKL := Lib.hid KA.out.lt
  have HK3 := Lib.hid K37.out.lt
  clear r0 r1 r2 r3 r4 r5 lr y0 y1 y2 y3 ly
  clear hb hE2 hB hFB hPB hZB K17 K27 K37 KA
  unfold sknC
  have lr := KA8.out.lt
  have fz0 := KA8.out.frozen 0
  have fz1 := KA8.out.frozen 1
  have fz2 := KA8.out.frozen 2
  have fz3 := KA8.out.frozen 3
  have fz4 := KA8.out.frozen 4
  have fz5 := KA8.out.frozen 5
  obtain ⟨r0, r1, r2, r3, r4, r5⟩ := skn_cells (S := A) KA8.out
  go_upto_region 10 with fail
  have kf : Blk ((((((w8.setCell ⟨w6.heap.size, 0, none⟩ (.slice B.pa B.pts.length B.pc)).setCell ⟨w6.heap.size, 1, none⟩ (.slice B.ha B.hs.length B.hc)).setCell ⟨w6.heap.size, 2, none⟩ (.int .i64 B.steep)).setCell ⟨w6.heap.size, 3, none⟩ (.int .i64 B.th.lo)).setCell ⟨w6.heap.size, 4, none⟩ (.int .i64 B.th.hi)).setCell ⟨w6.heap.size, 5, none⟩ (.slice B.ma B.ms.length B.mc)) w6.heap.size #[.slice B.pa B.pts.length B.pc, .slice B.ha B.hs.length B.hc, .int .i64 B.steep, .int .i64 B.th.lo, .int .i64 B.th.hi, .slice B.ma B.ms.length B.mc] 30 := ((((((KA8.out.set 0 (.slice B.pa B.pts.length B.pc)).set 1 (.slice B.ha B.hs.length B.hc)).set 2 (.int .i64 B.steep)).set 3 (.int .i64 B.th.lo)).set 4 (.int .i64 B.th.hi)).set 5 (.slice B.ma B.ms.length B.mc))
  have ht : Turn (fun k => k = w6.heap.size) w8 ((((((w8.setCell ⟨w6.heap.size, 0, none⟩ (.slice B.pa B.pts.length B.pc)).setCell ⟨w6.heap.size, 1, none⟩ (.slice B.ha B.hs.length B.hc)).setCell ⟨w6.heap.size, 2, none⟩ (.int .i64 B.steep)).setCell ⟨w6.heap.size, 3, none⟩ (.int .i64 B.th.lo)).setCell ⟨w6.heap.size, 4, none⟩ (.int .i64 B.th.hi)).setCell ⟨w6.heap.size, 5, none⟩ (.slice B.ma B.ms.length B.mc)) := (((((((Turn.of_below (X := fun k => k = w6.heap.size) (Below.refl _ w8)).setCell (B := w6.heap.size) rfl 0 (.slice B.pa B.pts.length B.pc)).setCell (B := w6.heap.size) rfl 1 (.slice B.ha B.hs.length B.hc)).setCell (B := w6.heap.size) rfl 2 (.int .i64 B.steep)).setCell (B := w6.heap.size) rfl 3 (.int .i64 B.th.lo)).setCell (B := w6.heap.size) rfl 4 (.int .i64 B.th.hi)).setCell (B := w6.heap.size) rfl 5 (.slice B.ma B.ms.length B.mc))
  generalize ((((((w8.setCell ⟨w6.heap.size, 0, none⟩ (.slice B.pa B.pts.length B.pc)).setCell ⟨w6.heap.size, 1, none⟩ (.slice B.ha B.hs.length B.hc)).setCell ⟨w6.heap.size, 2, none⟩ (.int .i64 B.steep)).setCell ⟨w6.heap.size, 3, none⟩ (.int .i64 B.th.lo)).setCell ⟨w6.heap.size, 4, none⟩ (.int .i64 B.th.hi)).setCell ⟨w6.heap.size, 5, none⟩ (.slice B.ma B.ms.length B.mc)) = w9 at *
  have HB9 := Lib.hid (HB8.out.trans (ht.below HB8.out.size (fun k e => by rw [show k = w6.heap.size from e]; have := HK6.out; omega)))
  have K19 := Lib.hid (ht.blk K18.out (fun e => by have := (show w.heap.size = w6.heap.size from e); have := HK6.out; omega))
  have K29 := Lib.hid (ht.blk K28.out (fun e => by have := (show w.heap.size + 1 = w6.heap.size from e); have := HK6.out; omega))
  have K39 := Lib.hid (ht.blk K38.out (fun e => by have := (show w.heap.size + 1 + 1 = w6.heap.size from e); have := HK6.out; omega))
  have HB9' := Lib.hid (HBB.out.turnF HFB.out ht (fun k e => by rw [show k = w6.heap.size from e]; exact HKL.out))
  have KB9 := Lib.hid kf
  clear r0 r1 r2 r3 r4 r5 lr fz0 fz1 fz2 fz3 fz4 fz5 kf ht K18 K28 K38 KA8 HBB
  by_cases hE0 : E2 = 0
  rotate_left
  · have e1 : (E2 == 0) = false := by rw [beq_eq_false_iff_ne]; exact hE0
    have e2 : (E2 != 0) = true := by simp [hE0]
    clear hE0
    go_wp2_with fail
    refine (lives_any _ (HG.out.below HB9.out)).mono ?_
    rintro e wz ⟨rfl, hbz⟩
    go_wp2_with fail
    go_ret
    exact ⟨rfl, HB9.out.trans (hbz.mono HB9.out.size)⟩
  subst hE0
  obtain ⟨a1, a2, a3, a4⟩ := seasonE_ok HE1.out
  obtain ⟨b1, b2, b3, b4⟩ := seasonE_ok HE2.out
  have a5 := isSpanB_iff.1 a2
  have b5 := isSpanB_iff.1 b2
  have hw1 : IntKind.i64.wrap (x.t.hi + y.t.hi) = x.t.hi + y.t.hi := by rw [IntKind.wrap_i64]; omega
  have hw2 : IntKind.i64.wrap (x.t.lo + y.t.lo) = x.t.lo + y.t.lo := by rw [IntKind.wrap_i64]; omega
  have hw3 : IntKind.i64.wrap (x.g + y.g) = x.g + y.g := by rw [IntKind.wrap_i64]; omega
  have HSP := Lib.hid (And.intro a2 b2)
  clear a1 a2 a3 a4 a5 b1 b2 b3 b4 b5
  obtain ⟨x0, x1, x2, x3⟩ := (show w9.cell? ⟨w.heap.size + 1, 0, none⟩ = some (.int .i64 x.t.lo) ∧ w9.cell? ⟨w.heap.size + 1, 1, none⟩ = some (.int .i64 x.t.hi) ∧ w9.cell? ⟨w.heap.size + 1, 2, none⟩ = some (.int .i64 x.g) ∧ w9.cell? ⟨w.heap.size + 1, 3, none⟩ = some (.int .i64 x.n) from ⟨K29.out.cell 0, K29.out.cell 1, K29.out.cell 2, K29.out.cell 3⟩)
  have lx := K29.out.lt
  obtain ⟨y0, y1, y2, y3⟩ := (show w9.cell? ⟨w.heap.size + 1 + 1, 0, none⟩ = some (.int .i64 y.t.lo) ∧ w9.cell? ⟨w.heap.size + 1 + 1, 1, none⟩ = some (.int .i64 y.t.hi) ∧ w9.cell? ⟨w.heap.size + 1 + 1, 2, none⟩ = some (.int .i64 y.g) ∧ w9.cell? ⟨w.heap.size + 1 + 1, 3, none⟩ = some (.int .i64 y.n) from ⟨K39.out.cell 0, K39.out.cell 1, K39.out.cell 2, K39.out.cell 3⟩)
  have ly := K39.out.lt
  by_cases hq : 2000 < x.t.hi + y.t.hi
  · go_wp2_with fail
    refine (lives_any _ (HG.out.below HB9.out)).mono ?_
    rintro e wz ⟨rfl, hbz⟩
    go_wp2_with fail
    go_ret
    exact ⟨rfl, HB9.out.trans (hbz.mono HB9.out.size)⟩
  have HQ := Lib.hid (show x.t.hi + y.t.hi ≤ 2000 by omega)
  have hq' : ¬ x.t.hi + y.t.hi > 2000 := hq
  obtain ⟨s0, s1, s2, s3, s4, s5⟩ := skn_cells (S := S) K19.out
  have ls := K19.out.lt
  go_wp2_with fail
  refine (wearSeason_any S ⟨x.t.lo + y.t.lo, x.t.hi + y.t.hi⟩ (x.g + y.g) _ (HS.out.below HB9.out) (HG.out.below HB9.out)).mono ?_
  rintro e w10 ⟨⟨C, rfl, hC, hFC, hPC, hZC⟩, hb⟩
  rw [season_sum HE1.out (HPA.out (by first | rfl | trivial)) HE2.out HQ.out] at hPC ⊢
  have kC := Blk.new w10 30 #[.slice C.pa C.pts.length C.pc, .slice C.ha C.hs.length C.hc, .int .i64 C.steep, .int .i64 C.th.lo, .int .i64 C.th.hi, .slice C.ma C.ms.length C.mc]
  have hb11 : Below w10.heap.size w10 (w10.alloc (.cells #[.slice C.pa C.pts.length C.pc, .slice C.ha C.hs.length C.hc, .int .i64 C.steep, .int .i64 C.th.lo, .int .i64 C.th.hi, .slice C.ma C.ms.length C.mc] 30)) := (Below.refl _ w10).alloc (Nat.le_refl _) _
  have hb911 := hb.trans (hb11.mono hb.size)
  have HB11 := Lib.hid (HB9.out.trans (hb911.mono HB9.out.size))
  have KB11 := Lib.hid (KB9.out.belowS hb911)
  have HB11' := Lib.hid (HB9'.out.below hb911)
  have HC11 := Lib.hid (hC.below hb11)
  have HAL := Lib.hid (behind_twice HSP.out.2 (HPA.out (by first | rfl | trivial)) (HPB.out (by first | rfl | trivial)) (hPC (by first | rfl | trivial)))
  clear s0 s1 s2 s3 s4 s5 ls x0 x1 x2 x3 lx y0 y1 y2 y3 ly
  clear hb hb11 hb911 hC hFC hPC hZC hw1 hw2 hw3 hq hq' K19 K29 K39 KB9
  unfold sknC
  go_upto_region 13 with fail
  generalize w10.alloc (.cells #[.slice C.pa C.pts.length C.pc, .slice C.ha C.hs.length C.hc, .int .i64 C.steep, .int .i64 C.th.lo, .int .i64 C.th.hi, .slice C.ma C.ms.length C.mc] 30) = w11 at *
  have KC := Lib.hid kC
  clear kC
  obtain ⟨s0, s1, s2, s3, s4, s5⟩ := skn_cells (S := B) KB11.out
  have ls := KB11.out.lt
  obtain ⟨r0, r1, r2, r3, r4, r5⟩ := skn_cells (S := C) KC.out
  have lr := KC.out.lt
  go_wp2_with fail
  refine (sameAlike_any B C _ HB11'.out HC11.out HAL.out).mono ?_
  rintro e w12 ⟨rfl, hb⟩
  have HB12 := Lib.hid (HB11.out.trans (hb.mono HB11.out.size))
  clear s0 s1 s2 s3 s4 s5 ls r0 r1 r2 r3 r4 r5 lr
  clear hb
  go_wp2_with fail
  refine (lives_any _ (HG.out.below HB12.out)).mono ?_
  rintro e wz ⟨rfl, hbz⟩
  go_wp2_with fail
  go_ret
  exact ⟨rfl, HB12.out.trans (hbz.mono HB12.out.size)⟩
end Go.Proofs.YtoigihmgjacbjaaDoor
