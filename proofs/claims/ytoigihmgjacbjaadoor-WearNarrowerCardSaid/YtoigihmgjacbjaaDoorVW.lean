/- WearNarrower's walk. No condition but the package's variable. -/
import Derived.Test.YtoigihmgjacbjaaDoorVV
import Derived.Test.YtoigihmgjacbjaaDoorVJ
import Derived.Test.YtoigihmgjacbjaaDoorVB
set_option linter.unusedSimpArgs false
namespace Go.Proofs.YtoigihmgjacbjaaDoor
open Go.RowKit

structure Rdg where
  at_ : Pnt
  r : Int
  n : Int
set_option maxRecDepth 100000 in
set_option maxHeartbeats 16000000 in
theorem wearNarrowerLaw_any (S : Skn) (x : Rdg) (p : Pnt) (w : World) (hS : IsSkn w S) (hg : Laid w) :
    Calls Tryd.prog 6 #[.agg #[.slice S.pa S.pts.length S.pc, .slice S.ha S.hs.length S.hc, .int .i64 S.steep, .int .i64 S.th.lo, .int .i64 S.th.hi, .slice S.ma S.ms.length S.mc], .agg #[.int .i64 x.at_.x, .int .i64 x.at_.y, .int .i64 x.r, .int .i64 x.n], .agg #[.int .i64 p.x, .int .i64 p.y]] w fun e w' => e = .returned (.bool true) ∧ Below w.heap.size w w' := by
  have k1 := ((Blk.new w 30 #[.slice S.pa S.pts.length S.pc, .slice S.ha S.hs.length S.hc, .int .i64 S.steep, .int .i64 S.th.lo, .int .i64 S.th.hi, .slice S.ma S.ms.length S.mc]).alloc (.cells #[.int .i64 x.at_.x, .int .i64 x.at_.y, .int .i64 x.r, .int .i64 x.n] 48)).alloc (.cells #[.int .i64 p.x, .int .i64 p.y] 45)
  have k2 := (Blk.new (w.alloc (.cells #[.slice S.pa S.pts.length S.pc, .slice S.ha S.hs.length S.hc, .int .i64 S.steep, .int .i64 S.th.lo, .int .i64 S.th.hi, .slice S.ma S.ms.length S.mc] 30)) 48 #[.int .i64 x.at_.x, .int .i64 x.at_.y, .int .i64 x.r, .int .i64 x.n]).alloc (.cells #[.int .i64 p.x, .int .i64 p.y] 45)
  have k3 := Blk.new ((w.alloc (.cells #[.slice S.pa S.pts.length S.pc, .slice S.ha S.hs.length S.hc, .int .i64 S.steep, .int .i64 S.th.lo, .int .i64 S.th.hi, .slice S.ma S.ms.length S.mc] 30)).alloc (.cells #[.int .i64 x.at_.x, .int .i64 x.at_.y, .int .i64 x.r, .int .i64 x.n] 48)) 45 #[.int .i64 p.x, .int .i64 p.y]
  rw [World.size_alloc] at k2
  rw [World.size_alloc, World.size_alloc] at k3
  have hb1 : Below w.heap.size w (((w.alloc (.cells #[.slice S.pa S.pts.length S.pc, .slice S.ha S.hs.length S.hc, .int .i64 S.steep, .int .i64 S.th.lo, .int .i64 S.th.hi, .slice S.ma S.ms.length S.mc] 30)).alloc (.cells #[.int .i64 x.at_.x, .int .i64 x.at_.y, .int .i64 x.r, .int .i64 x.n] 48)).alloc (.cells #[.int .i64 p.x, .int .i64 p.y] 45)) := (((Below.refl _ w).alloc (Nat.le_refl _) _).alloc (by simp) _).alloc (by simp; omega) _
  have HS := Lib.hid hS
  have HG := Lib.hid hg
  clear hS hg
  go_enter Tryd.func6, Tryd.ntmps6
  go_upto_region 1 with fail
  generalize (((w.alloc (.cells #[.slice S.pa S.pts.length S.pc, .slice S.ha S.hs.length S.hc, .int .i64 S.steep, .int .i64 S.th.lo, .int .i64 S.th.hi, .slice S.ma S.ms.length S.mc] 30)).alloc (.cells #[.int .i64 x.at_.x, .int .i64 x.at_.y, .int .i64 x.r, .int .i64 x.n] 48)).alloc (.cells #[.int .i64 p.x, .int .i64 p.y] 45)) = w1 at *
  have KS1 := Lib.hid k1
  have KX1 := Lib.hid k2
  have KP1 := Lib.hid k3
  have HB1 := Lib.hid hb1
  clear k1 k2 k3 hb1
  obtain ⟨s0, s1, s2, s3, s4, s5⟩ := skn_cells (S := S) KS1.out
  have ls := KS1.out.lt
  go_wp2_with fail
  refine (great_any S _ (HS.out.below HB1.out)).mono ?_
  rintro e w2 ⟨⟨gb, rfl⟩, hb⟩
  have HB2 := Lib.hid (HB1.out.trans (hb.mono HB1.out.size))
  have KS2 := Lib.hid (KS1.out.belowS hb)
  have KX2 := Lib.hid (KX1.out.belowS hb)
  have KP2 := Lib.hid (KP1.out.belowS hb)
  clear s0 s1 s2 s3 s4 s5 ls
  clear hb KS1 KX1 KP1
  cases gb with
  | true =>
    go_wp2_with fail
    refine (lives_any _ (HG.out.below HB2.out)).mono ?_
    rintro e wz ⟨rfl, hbz⟩
    go_wp2_with fail
    go_ret
    exact ⟨rfl, HB2.out.trans (hbz.mono HB2.out.size)⟩
  | false =>
  obtain ⟨s0, s1, s2, s3, s4, s5⟩ := skn_cells (S := S) KS2.out
  have ls := KS2.out.lt
  obtain ⟨x0, x1, x2, x3⟩ := (show w2.cell? ⟨w.heap.size + 1, 0, none⟩ = some (.int .i64 x.at_.x) ∧ w2.cell? ⟨w.heap.size + 1, 1, none⟩ = some (.int .i64 x.at_.y) ∧ w2.cell? ⟨w.heap.size + 1, 2, none⟩ = some (.int .i64 x.r) ∧ w2.cell? ⟨w.heap.size + 1, 3, none⟩ = some (.int .i64 x.n) from ⟨KX2.out.cell 0, KX2.out.cell 1, KX2.out.cell 2, KX2.out.cell 3⟩)
  have lx := KX2.out.lt
  go_wp2_with fail
  refine (wearProbe_any S x.at_ x.r x.n _ (HS.out.below HB2.out) (HG.out.below HB2.out)).mono ?_
  rintro e w3 ⟨⟨T, rfl, hT, hF, hP, hZ⟩, hb⟩
  obtain ⟨E, hE⟩ : ∃ E, probeE S x.at_ x.r x.n = E := ⟨_, rfl⟩
  rw [hE] at hP hZ ⊢
  have HE := Lib.hid hE
  have kT := Blk.new w3 30 #[.slice T.pa T.pts.length T.pc, .slice T.ha T.hs.length T.hc, .int .i64 T.steep, .int .i64 T.th.lo, .int .i64 T.th.hi, .slice T.ma T.ms.length T.mc]
  have hb4 : Below w3.heap.size w3 (w3.alloc (.cells #[.slice T.pa T.pts.length T.pc, .slice T.ha T.hs.length T.hc, .int .i64 T.steep, .int .i64 T.th.lo, .int .i64 T.th.hi, .slice T.ma T.ms.length T.mc] 30)) := (Below.refl _ w3).alloc (Nat.le_refl _) _
  have hb24 := hb.trans (hb4.mono hb.size)
  have HB4 := Lib.hid (HB2.out.trans (hb24.mono HB2.out.size))
  have KS4 := Lib.hid (KS2.out.belowS hb24)
  have KX4 := Lib.hid (KX2.out.belowS hb24)
  have KP4 := Lib.hid (KP2.out.belowS hb24)
  have HT := Lib.hid (hT.below hb4)
  have HP := Lib.hid hP
  have HZ := Lib.hid hZ
  clear s0 s1 s2 s3 s4 s5 ls x0 x1 x2 x3 lx
  clear hb hb4 hb24 hE hT hF hP hZ KS2 KX2 KP2
  unfold sknC
  go_upto_region 4 with fail
  generalize w3.alloc (.cells #[.slice T.pa T.pts.length T.pc, .slice T.ha T.hs.length T.hc, .int .i64 T.steep, .int .i64 T.th.lo, .int .i64 T.th.hi, .slice T.ma T.ms.length T.mc] 30) = w4 at *
  have KT4 := Lib.hid kT
  clear kT
  by_cases hE0 : E = 0
  rotate_left
  · have e1 : (E == 0) = false := by rw [beq_eq_false_iff_ne]; exact hE0
    have e2 : (E != 0) = true := by simp [hE0]
    obtain rfl : T = zeroSkn := HZ.out hE0
    clear hE0
    have r := skn_cells (S := zeroSkn) KT4.out
    simp only [zeroSkn] at r
    obtain ⟨r0, r1, r2, r3, r4, r5⟩ := r
    have lr := KT4.out.lt
    go_wp2_with fail
    refine (sameAlike_any zeroSkn zeroSkn _ (zero_is _) (zero_is _) (Alike.refl _)).mono ?_
    rintro e w5 ⟨rfl, hb⟩
    have HB5 := Lib.hid (HB4.out.trans (hb.mono HB4.out.size))
    clear r0 r1 r2 r3 r4 r5 lr
    clear hb
    go_wp2_with fail
    refine (lives_any _ (HG.out.below HB5.out)).mono ?_
    rintro e wz ⟨rfl, hbz⟩
    go_wp2_with fail
    go_ret
    exact ⟨rfl, HB5.out.trans (hbz.mono HB5.out.size)⟩
  subst hE0
  have hP := HP.out (by first | rfl | trivial)
  obtain ⟨hpe, hal⟩ := probed_twice HE.out hP
  have HPR := Lib.hid hP
  have HPE := Lib.hid hpe
  have HAL := Lib.hid hal
  clear hP hpe hal HP HZ
  obtain ⟨r0, r1, r2, r3, r4, r5⟩ := skn_cells (S := T) KT4.out
  have lr := KT4.out.lt
  obtain ⟨x0, x1, x2, x3⟩ := (show w4.cell? ⟨w.heap.size + 1, 0, none⟩ = some (.int .i64 x.at_.x) ∧ w4.cell? ⟨w.heap.size + 1, 1, none⟩ = some (.int .i64 x.at_.y) ∧ w4.cell? ⟨w.heap.size + 1, 2, none⟩ = some (.int .i64 x.r) ∧ w4.cell? ⟨w.heap.size + 1, 3, none⟩ = some (.int .i64 x.n) from ⟨KX4.out.cell 0, KX4.out.cell 1, KX4.out.cell 2, KX4.out.cell 3⟩)
  have lx := KX4.out.lt
  go_wp2_with fail
  refine (wearProbe_any T x.at_ x.r x.n _ HT.out (HG.out.below HB4.out)).mono ?_
  rintro e w5 ⟨⟨U, rfl, hU, hF, hP, hZ⟩, hb⟩
  rw [HPE.out] at hP hZ ⊢
  have kU := Blk.new w5 30 #[.slice U.pa U.pts.length U.pc, .slice U.ha U.hs.length U.hc, .int .i64 U.steep, .int .i64 U.th.lo, .int .i64 U.th.hi, .slice U.ma U.ms.length U.mc]
  have hb6 : Below w5.heap.size w5 (w5.alloc (.cells #[.slice U.pa U.pts.length U.pc, .slice U.ha U.hs.length U.hc, .int .i64 U.steep, .int .i64 U.th.lo, .int .i64 U.th.hi, .slice U.ma U.ms.length U.mc] 30)) := (Below.refl _ w5).alloc (Nat.le_refl _) _
  have hb46 := hb.trans (hb6.mono hb.size)
  have HB6 := Lib.hid (HB4.out.trans (hb46.mono HB4.out.size))
  have KS6 := Lib.hid (KS4.out.belowS hb46)
  have KX6 := Lib.hid (KX4.out.belowS hb46)
  have KP6 := Lib.hid (KP4.out.belowS hb46)
  have KT6 := Lib.hid (KT4.out.belowS hb46)
  have HT6 := Lib.hid (HT.out.below hb46)
  have HU6 := Lib.hid (hU.below hb6)
  have HALU := Lib.hid (HAL.out U (hP rfl))
  clear r0 r1 r2 r3 r4 r5 lr x0 x1 x2 x3 lx
  clear hb hb6 hb46 hU hF hP hZ KS4 KX4 KP4 KT4 HT HAL
  unfold sknC
  go_upto_region 7 with fail
  generalize w5.alloc (.cells #[.slice U.pa U.pts.length U.pc, .slice U.ha U.hs.length U.hc, .int .i64 U.steep, .int .i64 U.th.lo, .int .i64 U.th.hi, .slice U.ma U.ms.length U.mc] 30) = w6 at *
  have KU6 := Lib.hid kU
  clear kU
  obtain ⟨r0, r1, r2, r3, r4, r5⟩ := skn_cells (S := T) KT6.out
  have lr := KT6.out.lt
  obtain ⟨s0, s1, s2, s3, s4, s5⟩ := skn_cells (S := U) KU6.out
  have ls := KU6.out.lt
  go_wp2_with fail
  refine (sameAlike_any T U _ HT6.out HU6.out HALU.out).mono ?_
  rintro e w7 ⟨rfl, hb⟩
  have HB7 := Lib.hid (HB6.out.trans (hb.mono HB6.out.size))
  have KS7 := Lib.hid (KS6.out.belowS hb)
  have KX7 := Lib.hid (KX6.out.belowS hb)
  have KP7 := Lib.hid (KP6.out.belowS hb)
  have KT7 := Lib.hid (KT6.out.belowS hb)
  have HT7 := Lib.hid (HT6.out.below hb)
  clear r0 r1 r2 r3 r4 r5 lr s0 s1 s2 s3 s4 s5 ls
  clear hb KS6 KX6 KP6 KT6 KU6 HT6 HU6 HALU
  obtain ⟨r0, r1, r2, r3, r4, r5⟩ := skn_cells (S := T) KT7.out
  have lr := KT7.out.lt
  obtain ⟨x0, x1, x2, x3⟩ := (show w7.cell? ⟨w.heap.size + 1, 0, none⟩ = some (.int .i64 x.at_.x) ∧ w7.cell? ⟨w.heap.size + 1, 1, none⟩ = some (.int .i64 x.at_.y) ∧ w7.cell? ⟨w.heap.size + 1, 2, none⟩ = some (.int .i64 x.r) ∧ w7.cell? ⟨w.heap.size + 1, 3, none⟩ = some (.int .i64 x.n) from ⟨KX7.out.cell 0, KX7.out.cell 1, KX7.out.cell 2, KX7.out.cell 3⟩)
  have lx := KX7.out.lt
  go_wp2_with fail
  refine (wearBounds_any T x.at_ _ HT7.out (HG.out.below HB7.out)).mono ?_
  rintro e w8 ⟨rfl, hb⟩
  have HPT := Lib.hid (show pointE T x.at_ = 0 by rw [probed_point HE.out HPR.out]; exact (probeE_ok HE.out).1)
  rw [HPT.out]
  obtain ⟨B, hB⟩ : ∃ B, endB 0 (boundM T x.at_) = B := ⟨_, rfl⟩
  rw [hB]
  have HBB := Lib.hid (show boundM T x.at_ = B from hB)
  have kB := Blk.new w8 27 #[.int .i64 B.lo, .int .i64 B.hi]
  have hb9 : Below w8.heap.size w8 (w8.alloc (.cells #[.int .i64 B.lo, .int .i64 B.hi] 27)) := (Below.refl _ w8).alloc (Nat.le_refl _) _
  have hb79 := hb.trans (hb9.mono hb.size)
  have HSZ := Lib.hid (show w.heap.size ≤ w8.heap.size from Nat.le_trans HB7.out.size hb.size)
  have HB9 := Lib.hid (HB7.out.trans (hb79.mono HB7.out.size))
  have KS9 := Lib.hid (KS7.out.belowS hb79)
  have KX9 := Lib.hid (KX7.out.belowS hb79)
  have KP9 := Lib.hid (KP7.out.belowS hb79)
  have KT9 := Lib.hid (KT7.out.belowS hb79)
  have HT9 := Lib.hid (HT7.out.below hb79)
  clear r0 r1 r2 r3 r4 r5 lr x0 x1 x2 x3 lx
  clear hb hb9 hb79 hB KS7 KX7 KP7 KT7 HT7
  go_upto_region 10 with fail
  generalize w8.alloc (.cells #[.int .i64 B.lo, .int .i64 B.hi] 27) = w9 at *
  have KB9 := Lib.hid kB
  clear kB
  have hat := probed_at HE.out HPR.out
  rw [HBB.out] at hat
  obtain ⟨q1, q2, q3⟩ := hat
  obtain ⟨_, ⟨hr, hn⟩, _⟩ := probeE_ok HE.out
  have hw1 : IntKind.i64.wrap (x.r - x.n) = x.r - x.n := by rw [IntKind.wrap_i64]; omega
  have hw2 : IntKind.i64.wrap (x.r + x.n) = x.r + x.n := by rw [IntKind.wrap_i64]; omega
  have c1 : ¬ B.lo < x.r - x.n := by omega
  have c2 : ¬ B.hi > x.r + x.n := by omega
  have c3 : ¬ B.lo > B.hi := by omega
  clear q1 q2 q3 hr hn
  obtain ⟨b0, b1⟩ := spn_cells (s := B) KB9.out
  have lb := KB9.out.lt
  obtain ⟨x0, x1, x2, x3⟩ := (show w9.cell? ⟨w.heap.size + 1, 0, none⟩ = some (.int .i64 x.at_.x) ∧ w9.cell? ⟨w.heap.size + 1, 1, none⟩ = some (.int .i64 x.at_.y) ∧ w9.cell? ⟨w.heap.size + 1, 2, none⟩ = some (.int .i64 x.r) ∧ w9.cell? ⟨w.heap.size + 1, 3, none⟩ = some (.int .i64 x.n) from ⟨KX9.out.cell 0, KX9.out.cell 1, KX9.out.cell 2, KX9.out.cell 3⟩)
  have lx := KX9.out.lt
  go_upto_region 12 with fail
  clear c1 c2 c3 hw1 hw2
  clear b0 b1 lb x0 x1 x2 x3 lx
  obtain ⟨s0, s1, s2, s3, s4, s5⟩ := skn_cells (S := S) KS9.out
  have ls := KS9.out.lt
  obtain ⟨p0, p1⟩ := pnt_cells KP9.out
  have lp := KP9.out.lt
  go_wp2_with fail
  refine (wearBounds_any S p _ (HS.out.below HB9.out) (HG.out.below HB9.out)).mono ?_
  rintro e w10 ⟨rfl, hb⟩
  obtain ⟨A, hA⟩ : ∃ A, endB (pointE S p) (boundM S p) = A := ⟨_, rfl⟩
  obtain ⟨G, hG⟩ : ∃ G, pointE S p = G := ⟨_, rfl⟩
  rw [hA, hG]
  have HA := Lib.hid hA
  have HGG := Lib.hid hG
  have kA := Blk.new w10 27 #[.int .i64 A.lo, .int .i64 A.hi]
  have hb11 : Below w10.heap.size w10 (w10.alloc (.cells #[.int .i64 A.lo, .int .i64 A.hi] 27)) := (Below.refl _ w10).alloc (Nat.le_refl _) _
  have hb911 := hb.trans (hb11.mono hb.size)
  have HB11 := Lib.hid (HB9.out.trans (hb911.mono HB9.out.size))
  have KP11 := Lib.hid (KP9.out.belowS hb911)
  have KT11 := Lib.hid (KT9.out.belowS hb911)
  have KB11 := Lib.hid (KB9.out.belowS hb911)
  have HT11 := Lib.hid (HT9.out.below hb911)
  have HNE := Lib.hid (show w8.heap.size ≠ w10.heap.size from by have := KB9.out.lt; have := hb.size; omega)
  clear s0 s1 s2 s3 s4 s5 ls p0 p1 lp
  clear hb hb11 hb911 hA hG KS9 KX9 KP9 KT9 KB9 HT9
  go_upto_region 13 with fail
  generalize w10.alloc (.cells #[.int .i64 A.lo, .int .i64 A.hi] 27) = w11 at *
  have KA11 := Lib.hid kA
  clear kA
  obtain ⟨r0, r1, r2, r3, r4, r5⟩ := skn_cells (S := T) KT11.out
  have lr := KT11.out.lt
  obtain ⟨p0, p1⟩ := pnt_cells KP11.out
  have lp := KP11.out.lt
  go_wp2_with fail
  refine (wearBounds_any T p _ HT11.out (HG.out.below HB11.out)).mono ?_
  rintro e w12 ⟨rfl, hb⟩
  rw [probed_point HE.out HPR.out p, HGG.out]
  obtain ⟨C, hC⟩ : ∃ C, endB G (boundM T p) = C := ⟨_, rfl⟩
  rw [hC]
  have HC := Lib.hid hC
  have HB12 := Lib.hid (HB11.out.trans (hb.mono HB11.out.size))
  have KA12 := Lib.hid (KA11.out.belowS hb)
  have KB12 := Lib.hid (KB11.out.belowS hb)
  clear r0 r1 r2 r3 r4 r5 lr p0 p1 lp
  clear hb hC KP11 KT11 KA11 KB11 HT11
  obtain ⟨b0, b1⟩ := spn_cells (s := B) KB12.out
  have lb := KB12.out.lt
  have z0 := KB12.out.frozen 0
  have z1 := KB12.out.frozen 1
  go_upto_region 14 with fail
  have kf : Blk ((w12.setCell ⟨w8.heap.size, 0, none⟩ (.int .i64 C.lo)).setCell ⟨w8.heap.size, 1, none⟩ (.int .i64 C.hi)) w8.heap.size #[.int .i64 C.lo, .int .i64 C.hi] 27 := ((KB12.out.set 0 (.int .i64 C.lo)).set 1 (.int .i64 C.hi))
  have ht : Turn (fun k => k = w8.heap.size) w12 ((w12.setCell ⟨w8.heap.size, 0, none⟩ (.int .i64 C.lo)).setCell ⟨w8.heap.size, 1, none⟩ (.int .i64 C.hi)) := (((Turn.of_below (X := fun k => k = w8.heap.size) (Below.refl _ w12)).setCell (B := w8.heap.size) rfl 0 (.int .i64 C.lo)).setCell (B := w8.heap.size) rfl 1 (.int .i64 C.hi))
  generalize ((w12.setCell ⟨w8.heap.size, 0, none⟩ (.int .i64 C.lo)).setCell ⟨w8.heap.size, 1, none⟩ (.int .i64 C.hi)) = w13 at *
  have KA13 := Lib.hid (ht.blk KA12.out (fun e => HNE.out (show w10.heap.size = w8.heap.size from e).symm))
  have KC13 := Lib.hid kf
  have HB13 := Lib.hid (HB12.out.trans (ht.below HB12.out.size (fun k e => by rw [show k = w8.heap.size from e]; have := HSZ.out; omega)))
  clear b0 b1 lb
  clear z0 z1 kf ht KA12 KB12
  obtain ⟨b0, b1⟩ := spn_cells (s := C) KC13.out
  have lb := KC13.out.lt
  obtain ⟨a0, a1⟩ := spn_cells (s := A) KA13.out
  have la := KA13.out.lt
  have ee : (G == G) = true := by simp
  by_cases hG0 : G = 0
  rotate_left
  · have e1 : (G == 0) = false := by rw [beq_eq_false_iff_ne]; exact hG0
    have e2 : (G != 0) = true := by simp [hG0]
    clear hG0
    go_wp2_with fail
    refine (lives_any _ (HG.out.below HB13.out)).mono ?_
    rintro e wz ⟨rfl, hbz⟩
    go_wp2_with fail
    go_ret
    exact ⟨rfl, HB13.out.trans (hbz.mono HB13.out.size)⟩
  subst hG0
  have hnw := probed_narrow HE.out HPR.out p
  have hA : boundM S p = A := by rw [← HA.out, HGG.out]; rfl
  have hC : boundM T p = C := HC.out
  rw [hA, hC] at hnw
  obtain ⟨c1, c2⟩ := hnw
  have c1' : C.lo ≥ A.lo := c1
  clear hA hC
  go_wp2_with fail
  refine (lives_any _ (HG.out.below HB13.out)).mono ?_
  rintro e wz ⟨rfl, hbz⟩
  go_wp2_with fail
  go_ret
  exact ⟨rfl, HB13.out.trans (hbz.mono HB13.out.size)⟩
end Go.Proofs.YtoigihmgjacbjaaDoor
