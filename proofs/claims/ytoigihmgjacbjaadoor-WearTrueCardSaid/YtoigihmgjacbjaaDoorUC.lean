/- WearTrue's walk. No condition but the package's variable. -/
import Derived.Test.YtoigihmgjacbjaaDoorUB
import Derived.Test.YtoigihmgjacbjaaDoorVB
set_option linter.unusedSimpArgs false
namespace Go.Proofs.YtoigihmgjacbjaaDoor
open Go.RowKit

theorem off_bd {r n : Int} (hn : 0 ≤ n) : -n ≤ r.tmod (n + 1) ∧ r.tmod (n + 1) ≤ n := by
  have h1 := Int.tmod_lt_of_pos r (show 0 < n + 1 by omega)
  have h2 : -(n + 1) < r.tmod (n + 1) := by
    rcases Int.le_total 0 r with h | h
    · have := Int.tmod_nonneg (n + 1) h
      omega
    · have := Int.tmod_lt_of_pos (-r) (show 0 < n + 1 by omega)
      rw [Int.neg_tmod] at this
      omega
  omega

set_option maxRecDepth 100000 in
set_option maxHeartbeats 32000000 in
theorem wearTrueLaw_any (S : Skn) (ha : Option Addr) (hc : Nat) (hl : List Hil) (la : Option Addr) (lc : Nat) (l : List Rdg) (p : Pnt) (w : World) (hS : IsSkn w S) (hH : IsHils w ha hc hl) (hL : IsRow4 rdgC w la lc l) (hg : Laid w) :
    Calls Tryd.prog 5 #[.agg #[.slice S.pa S.pts.length S.pc, .slice S.ha S.hs.length S.hc, .int .i64 S.steep, .int .i64 S.th.lo, .int .i64 S.th.hi, .slice S.ma S.ms.length S.mc], .slice ha hl.length hc, .slice la l.length lc, .agg #[.int .i64 p.x, .int .i64 p.y]] w fun e w' => e = .returned (.bool true) ∧ Below w.heap.size w w' := by
  have k1 := (Blk.new w 30 #[.slice S.pa S.pts.length S.pc, .slice S.ha S.hs.length S.hc, .int .i64 S.steep, .int .i64 S.th.lo, .int .i64 S.th.hi, .slice S.ma S.ms.length S.mc]).alloc (.cells #[.int .i64 p.x, .int .i64 p.y] 45)
  have k2 := Blk.new (w.alloc (.cells #[.slice S.pa S.pts.length S.pc, .slice S.ha S.hs.length S.hc, .int .i64 S.steep, .int .i64 S.th.lo, .int .i64 S.th.hi, .slice S.ma S.ms.length S.mc] 30)) 45 #[.int .i64 p.x, .int .i64 p.y]
  rw [World.size_alloc] at k2
  have hb1 : Below w.heap.size w ((w.alloc (.cells #[.slice S.pa S.pts.length S.pc, .slice S.ha S.hs.length S.hc, .int .i64 S.steep, .int .i64 S.th.lo, .int .i64 S.th.hi, .slice S.ma S.ms.length S.mc] 30)).alloc (.cells #[.int .i64 p.x, .int .i64 p.y] 45)) := ((Below.refl _ w).alloc (Nat.le_refl _) _).alloc (by simp) _
  have HS := Lib.hid hS
  have HG := Lib.hid hg
  have HH := Lib.hid hH
  have HL := Lib.hid hL
  have hlen := hL.len
  have hlms := hS.ms.len
  clear hS hg hH hL
  go_enter Tryd.func5, Tryd.ntmps5
  go_upto_region 1 with fail
  generalize ((w.alloc (.cells #[.slice S.pa S.pts.length S.pc, .slice S.ha S.hs.length S.hc, .int .i64 S.steep, .int .i64 S.th.lo, .int .i64 S.th.hi, .slice S.ma S.ms.length S.mc] 30)).alloc (.cells #[.int .i64 p.x, .int .i64 p.y] 45)) = w1 at *
  have KS1 := Lib.hid k1
  have KP1 := Lib.hid k2
  have HB1 := Lib.hid hb1
  clear k1 k2 hb1
  obtain ⟨s0, s1, s2, s3, s4, s5⟩ := skn_cells (S := S) KS1.out
  have ls := KS1.out.lt
  go_wp2_with fail
  refine (great_any S _ (HS.out.below HB1.out)).mono ?_
  rintro e w2 ⟨⟨gb, rfl⟩, hb⟩
  have HB2 := Lib.hid (HB1.out.trans (hb.mono HB1.out.size))
  have KS2 := Lib.hid (KS1.out.belowS hb)
  have KP2 := Lib.hid (KP1.out.belowS hb)
  clear s0 s1 s2 s3 s4 s5 ls
  clear hb KS1 KP1
  cases gb with
  | true =>
    go_wp2_with fail
    refine (lives_any _ (HG.out.below HB2.out)).mono ?_
    rintro e wz ⟨rfl, hbz⟩
    go_wp2_with fail
    go_ret
    exact ⟨rfl, HB2.out.trans (hbz.mono HB2.out.size)⟩
  | false =>
  obtain ⟨s0, s1, s2, s3, s4, s5⟩ := skn_cells (S := S) KS2.out
  have ls := KS2.out.lt
  by_cases hm0 : 0 < S.ms.length
  · have hd : decide (0 < S.ms.length) = true := decide_eq_true hm0
    have hd' : decide ((0 : Int) < (S.ms.length : Int)) = true := decide_eq_true (by omega)
    clear hm0
    go_wp2_with fail
    refine (lives_any _ (HG.out.below HB2.out)).mono ?_
    rintro e wz ⟨rfl, hbz⟩
    go_wp2_with fail
    go_ret
    exact ⟨rfl, HB2.out.trans (hbz.mono HB2.out.size)⟩
  have HM0 := Lib.hid hm0
  have hd : decide (0 < S.ms.length) = false := decide_eq_false hm0
  have hd' : decide ((0 : Int) < (S.ms.length : Int)) = false := decide_eq_false (by omega)
  clear hm0
  by_cases h20 : 20 < l.length
  · have h20' : (20 : Int) < (l.length : Int) := by omega
    go_wp2_with fail
    refine (lives_any _ (HG.out.below HB2.out)).mono ?_
    rintro e wz ⟨rfl, hbz⟩
    go_wp2_with fail
    go_ret
    exact ⟨rfl, HB2.out.trans (hbz.mono HB2.out.size)⟩
  have h20' : ¬ (20 : Int) < (l.length : Int) := by omega
  have HN := Lib.hid (show S.ms = [] ∧ l.length ≤ 20 from ⟨List.eq_nil_of_length_eq_zero (by have := HM0.out; omega), by omega⟩)
  clear h20 hlms
  go_wp2_with fail
  refine (near_any ha hc hl _ (HH.out.below HB2.out)).mono ?_
  rintro e w3 ⟨hne, hb⟩
  obtain ⟨nb, rfl, hnb⟩ := hne
  have HB3 := Lib.hid (HB2.out.trans (hb.mono HB2.out.size))
  have KS3 := Lib.hid (KS2.out.belowS hb)
  have KP3 := Lib.hid (KP2.out.belowS hb)
  clear s0 s1 s2 s3 s4 s5 ls
  clear hb KS2 KP2 hd hd'
  cases nb with
  | false =>
    go_wp2_with fail
    refine (lives_any _ (HG.out.below HB3.out)).mono ?_
    rintro e wz ⟨rfl, hbz⟩
    go_wp2_with fail
    go_ret
    exact ⟨rfl, HB3.out.trans (hbz.mono HB3.out.size)⟩
  | true =>
  have HNR := Lib.hid (NearEnd.get (l := hl) ⟨true, rfl, hnb⟩)
  clear hnb
  obtain ⟨s0, s1, s2, s3, s4, s5⟩ := skn_cells (S := S) KS3.out
  have ls := KS3.out.lt
  go_wp2_with fail
  refine (wearCheck_any S _ (HS.out.below HB3.out) (HG.out.below HB3.out)).mono ?_
  rintro e w3b ⟨rfl, hb⟩
  obtain ⟨E0, hE0⟩ : ∃ E, skinE S = E := ⟨_, rfl⟩
  rw [hE0]
  have HB3b := Lib.hid (HB3.out.trans (hb.mono HB3.out.size))
  have KS3b := Lib.hid (KS3.out.belowS hb)
  have KP3b := Lib.hid (KP3.out.belowS hb)
  clear s0 s1 s2 s3 s4 s5 ls
  clear hb KS3 KP3
  by_cases hz : E0 = 0
  rotate_left
  · have e1 : (E0 == 0) = false := by rw [beq_eq_false_iff_ne]; exact hz
    have e2 : (E0 != 0) = true := by simp [hz]
    clear hz
    go_wp2_with fail
    refine (lives_any _ (HG.out.below HB3b.out)).mono ?_
    rintro e wz ⟨rfl, hbz⟩
    go_wp2_with fail
    go_ret
    exact ⟨rfl, HB3b.out.trans (hbz.mono HB3b.out.size)⟩
  subst hz
  have HSK := Lib.hid hE0
  have HGD := Lib.hid (skinE_ok hE0)
  clear hE0
  have HTH := Lib.hid (isSpanB_iff.1 HGD.out.th)
  have HLIP := Lib.hid (fun g => real_lip S.th HGD.out.steep.1 hl g)
  obtain ⟨w3, rfl⟩ : ∃ w3 : World, w3 = w3b := ⟨_, rfl⟩
  have kF := Blk.new w3 30 #[.slice S.pa S.pts.length S.pc, .slice S.ha S.hs.length S.hc, .int .i64 S.steep, .int .i64 S.th.lo, .int .i64 S.th.hi, .slice S.ma S.ms.length S.mc]
  have hb4 : Below w3.heap.size w3 (w3.alloc (.cells #[.slice S.pa S.pts.length S.pc, .slice S.ha S.hs.length S.hc, .int .i64 S.steep, .int .i64 S.th.lo, .int .i64 S.th.hi, .slice S.ma S.ms.length S.mc] 30)) := (Below.refl _ w3).alloc (Nat.le_refl _) _
  have HB4 := Lib.hid (HB3b.out.trans (hb4.mono HB3b.out.size))
  have KS4 := Lib.hid (KS3b.out.belowS hb4)
  have KP4 := Lib.hid (KP3b.out.belowS hb4)
  have HLT3 := Lib.hid (show w.heap.size + 2 ≤ w3.heap.size from KP3b.out.lt)
  have HTI := Lib.hid (tinv_first (hs := hl) HSK.out HN.out.1)
  obtain ⟨s0, s1, s2, s3, s4, s5⟩ := skn_cells (S := S) KS3b.out
  have ls := KS3b.out.lt
  clear hb4
  go_upto_region 4 with fail
  clear s0 s1 s2 s3 s4 s5 ls
  clear KS3b KP3b
  generalize w3.alloc (.cells #[.slice S.pa S.pts.length S.pc, .slice S.ha S.hs.length S.hc, .int .i64 S.steep, .int .i64 S.th.lo, .int .i64 S.th.hi, .slice S.ma S.ms.length S.mc] 30) = w4 at *
  have KF4 := Lib.hid kF
  clear kF
  go_wp2_with fail
  go_loopw [10, 11, 12, 13, 14, 15, 16, 17, 18, 19] (fun s10 s11 _ _ _ _ _ _ _ _ wr => ∃ (j : Nat) (R : Skn) (g : Int), j ≤ l.length ∧ s11 = .int .i64 j ∧ s10 = .int .i64 g ∧ (0 ≤ g ∧ g ≤ 10 * j) ∧ Blk wr w.heap.size (sknC R) 30 ∧ Blk wr (w.heap.size + 1) #[.int .i64 p.x, .int .i64 p.y] 45 ∧ Blk wr w3.heap.size #[.slice S.pa S.pts.length S.pc, .slice S.ha S.hs.length S.hc, .int .i64 S.steep, .int .i64 S.th.lo, .int .i64 S.th.hi, .slice S.ma S.ms.length S.mc] 30 ∧ TInv S (realF S.th S.steep hl g) R ∧ (R = S ∨ (IsSkn wr R ∧ Fresh (w3.heap.size + 1) R)) ∧ Below w.heap.size w wr) (fun _ i _ _ _ _ _ _ _ _ _ => l.length - (intOf i).toNat)
  case atStart => exact ⟨0, S, 0, Nat.zero_le _, rfl, rfl, by omega, KS4.out, KP4.out, KF4.out, HTI.out, .inl rfl, HB4.out⟩
  case round =>
  obtain ⟨j, R, g, hj, rfl, rfl, hgr, kR, kP, kF, hti, hR, hb⟩ := hrel
  obtain ⟨w5, rfl⟩ : ∃ w5 : World, w5 = wr := ⟨_, rfl⟩
  have HB5 := Lib.hid hb
  have KR5 := Lib.hid kR
  have KP5 := Lib.hid kP
  have KF5 := Lib.hid kF
  have HTI5 := Lib.hid hti
  have HRR := Lib.hid hR
  have HGR := Lib.hid hgr
  have HR5 := Lib.hid (show IsSkn w5 R by
    rcases hR with rfl | h
    · exact HS.out.below hb
    · exact h.1)
  have HJ := Lib.hid hj
  clear hgr kR kP kF hti hR hb HTI HB4 KS4 KP4 KF4
  by_cases hlj : j < l.length
  rotate_left
  · obtain rfl : j = l.length := by omega
    have hlj' : ¬ (l.length : Int) < (l.length : Int) := by omega
    clear hlj hj
    obtain ⟨s0, s1, s2, s3, s4, s5⟩ := skn_cells (S := R) KR5.out
    have ls := KR5.out.lt
    obtain ⟨p0, p1⟩ := pnt_cells KP5.out
    have lp := KP5.out.lt
    go_wp2_with fail
    refine (wearBounds_any R p _ HR5.out (HG.out.below HB5.out)).mono ?_
    rintro e w6 ⟨rfl, hb⟩
    obtain ⟨E, hE⟩ : ∃ E, pointE R p = E := ⟨_, rfl⟩
    rw [hE]
    obtain ⟨B, hB⟩ : ∃ B, endB E (boundM R p) = B := ⟨_, rfl⟩
    rw [hB]
    have HE := Lib.hid hE
    have HBB := Lib.hid hB
    have kB := Blk.new w6 27 #[.int .i64 B.lo, .int .i64 B.hi]
    have hb7 : Below w6.heap.size w6 (w6.alloc (.cells #[.int .i64 B.lo, .int .i64 B.hi] 27)) := (Below.refl _ w6).alloc (Nat.le_refl _) _
    have hb57 := hb.trans (hb7.mono hb.size)
    have HB7 := Lib.hid (HB5.out.trans (hb57.mono HB5.out.size))
    have KP7 := Lib.hid (KP5.out.belowS hb57)
    have KF7 := Lib.hid (KF5.out.belowS hb57)
    clear s0 s1 s2 s3 s4 s5 ls p0 p1 lp
    clear hb hb7 hb57 hE hB KR5 KP5 KF5
    go_upto_region 24 with fail
    generalize w6.alloc (.cells #[.int .i64 B.lo, .int .i64 B.hi] 27) = w7 at *
    have KB7 := Lib.hid kB
    clear kB
    have hRg := tinv_good HSK.out (HLIP.out g) HTI5.out
    by_cases hE0 : E = 0
    rotate_left
    · have hE7 : E = 7 := by
        rw [← HE.out] at hE0 ⊢
        unfold pointE at hE0 ⊢
        rw [if_neg (by rw [hRg]; decide)] at hE0 ⊢
        split at hE0
        · rename_i h1
          rw [if_pos h1]
        · exact absurd rfl hE0
      subst hE7
      clear hE0 hRg
      go_wp2_with fail
      refine (lives_any _ (HG.out.below HB7.out)).mono ?_
      rintro e wz ⟨rfl, hbz⟩
      go_wp2_with fail
      go_ret
      exact ⟨rfl, HB7.out.trans (hbz.mono HB7.out.size)⟩
    subst hE0
    have HPN := Lib.hid (near_point (pointE_ok HE.out).2.2)
    have HBI := Lib.hid (show B.lo ≤ realF S.th S.steep hl g p ∧ realF S.th S.steep hl g p ≤ B.hi by
      have h1 := tinv_bounds HSK.out (HLIP.out g) HTI5.out p
      have h2 : boundM R p = B := HBB.out
      rwa [h2] at h1)
    clear hRg
    obtain ⟨f0, f1, f2, f3, f4, f5⟩ := skn_cells (S := S) KF7.out
    have lf := KF7.out.lt
    obtain ⟨p0, p1⟩ := pnt_cells KP7.out
    have lp := KP7.out.lt
    go_wp2_with fail
    refine (thick_any ha hc hl S.steep S.th p _ (HH.out.below HB7.out) HNR.out.2 HPN.out HGD.out.steep HGD.out.th).mono ?_
    rintro e w8 ⟨rfl, hb⟩
    obtain ⟨T, hT⟩ : ∃ T, thickH S.th S.steep hl p = T := ⟨_, rfl⟩
    rw [hT]
    have htr := thick_range HTH.out.2.1 S.steep hl p
    rw [hT] at htr
    have hwt : IntKind.i64.wrap (T - g) = T - g := by have := HTH.out; have := HGR.out; have := HN.out.2; rw [IntKind.wrap_i64]; omega
    have HRF := Lib.hid (show realF S.th S.steep hl g p = max 0 (T - g) by unfold realF; rw [hT])
    have HB8 := Lib.hid (HB7.out.trans (hb.mono HB7.out.size))
    have KB8 := Lib.hid (KB7.out.belowS hb)
    clear f0 f1 f2 f3 f4 f5 lf p0 p1 lp
    clear hb hT htr KP7 KF7 KB7
    go_upto_region 27 with fail
    clear hwt
    obtain ⟨y, hy⟩ : ∃ y, max 0 (T - g) = y := ⟨_, rfl⟩
    rw [hy]
    obtain ⟨c1, c2⟩ : B.lo ≤ y ∧ y ≤ B.hi := by have := HBI.out; rw [HRF.out, hy] at this; exact this
    clear hy
    obtain ⟨b0, b1⟩ := spn_cells (s := B) KB8.out
    have lb := KB8.out.lt
    go_wp2_with fail
    refine (lives_any _ (HG.out.below HB8.out)).mono ?_
    rintro e wz ⟨rfl, hbz⟩
    go_wp2_with fail
    go_ret
    exact ⟨rfl, HB8.out.trans (hbz.mono HB8.out.size)⟩
  have hlj' : (j : Int) < (l.length : Int) := by omega
  have hj0 : (0 : Int) ≤ (j : Int) := Int.natCast_nonneg _
  have hjs : IntKind.i64.wrap ((j : Int) + 1) = ((j + 1 : Nat) : Int) := by have := HN.out.2; rw [IntKind.wrap_i64]; omega
  have hq : l[j]? = some l[j] := List.getElem?_eq_getElem hlj
  obtain ⟨b, off, hea, hbl, hcap, hcx, y0, y1, y2, y3⟩ := (HL.out.below HB5.out).at hq
  generalize l[j] = x at *
  simp only [rdgC, List.getElem?_toArray, List.getElem?_cons_zero, List.getElem?_cons_succ] at y0 y1 y2 y3
  have HLJ := Lib.hid hlj
  have kX := Blk.new w5 48 #[.int .i64 x.at_.x, .int .i64 x.at_.y, .int .i64 x.r, .int .i64 x.n]
  have hb6 : Below w5.heap.size w5 (w5.alloc (.cells #[.int .i64 x.at_.x, .int .i64 x.at_.y, .int .i64 x.r, .int .i64 x.n] 48)) := (Below.refl _ w5).alloc (Nat.le_refl _) _
  have HB6 := Lib.hid (HB5.out.trans (hb6.mono HB5.out.size))
  have KR6 := Lib.hid (KR5.out.belowS hb6)
  have KP6 := Lib.hid (KP5.out.belowS hb6)
  have KF6 := Lib.hid (KF5.out.belowS hb6)
  have HR6 := Lib.hid (HR5.out.below hb6)
  have HB56 := Lib.hid hb6
  subst hea
  clear hq hlj hj hb6 KR5 KP5 KF5 HR5
  go_upto_region 8 with fail
  clear y0 y1 y2 y3 hbl hcap hcx
  generalize w5.alloc (.cells #[.int .i64 x.at_.x, .int .i64 x.at_.y, .int .i64 x.r, .int .i64 x.n] 48) = w6 at *
  have KX6 := Lib.hid kX
  clear kX
  obtain ⟨x0, x1, x2, x3⟩ := (show w6.cell? ⟨w5.heap.size, 0, none⟩ = some (.int .i64 x.at_.x) ∧ w6.cell? ⟨w5.heap.size, 1, none⟩ = some (.int .i64 x.at_.y) ∧ w6.cell? ⟨w5.heap.size, 2, none⟩ = some (.int .i64 x.r) ∧ w6.cell? ⟨w5.heap.size, 3, none⟩ = some (.int .i64 x.n) from ⟨KX6.out.cell 0, KX6.out.cell 1, KX6.out.cell 2, KX6.out.cell 3⟩)
  have lx := KX6.out.lt
  by_cases c0 : x.n < 0
  · go_wp2_with fail
    refine (lives_any _ (HG.out.below HB6.out)).mono ?_
    rintro e wz ⟨rfl, hbz⟩
    go_wp2_with fail
    go_ret
    exact ⟨rfl, HB6.out.trans (hbz.mono HB6.out.size)⟩
  by_cases c1 : 100 < x.n
  · go_wp2_with fail
    refine (lives_any _ (HG.out.below HB6.out)).mono ?_
    rintro e wz ⟨rfl, hbz⟩
    go_wp2_with fail
    go_ret
    exact ⟨rfl, HB6.out.trans (hbz.mono HB6.out.size)⟩
  by_cases c2 : x.at_.x < -1000
  · go_wp2_with fail
    refine (lives_any _ (HG.out.below HB6.out)).mono ?_
    rintro e wz ⟨rfl, hbz⟩
    go_wp2_with fail
    go_ret
    exact ⟨rfl, HB6.out.trans (hbz.mono HB6.out.size)⟩
  by_cases c3 : x.at_.y < -1000
  · go_wp2_with fail
    refine (lives_any _ (HG.out.below HB6.out)).mono ?_
    rintro e wz ⟨rfl, hbz⟩
    go_wp2_with fail
    go_ret
    exact ⟨rfl, HB6.out.trans (hbz.mono HB6.out.size)⟩
  by_cases c4 : 1000 < x.at_.x
  · go_wp2_with fail
    refine (lives_any _ (HG.out.below HB6.out)).mono ?_
    rintro e wz ⟨rfl, hbz⟩
    go_wp2_with fail
    go_ret
    exact ⟨rfl, HB6.out.trans (hbz.mono HB6.out.size)⟩
  by_cases c5 : 1000 < x.at_.y
  · go_wp2_with fail
    refine (lives_any _ (HG.out.below HB6.out)).mono ?_
    rintro e wz ⟨rfl, hbz⟩
    go_wp2_with fail
    go_ret
    exact ⟨rfl, HB6.out.trans (hbz.mono HB6.out.size)⟩
  have HXN := Lib.hid (show nearB x.at_ by unfold nearB; omega)
  have HN0 := Lib.hid (show 0 ≤ x.n ∧ x.n ≤ 100 by omega)
  obtain ⟨f0, f1, f2, f3, f4, f5⟩ := skn_cells (S := S) KF6.out
  have lf := KF6.out.lt
  go_upto_region 10 with fail
  clear c0 c1 c2 c3 c4 c5
  go_wp2_with fail
  refine (thick_any ha hc hl S.steep S.th x.at_ _ (HH.out.below HB6.out) HNR.out.2 HXN.out HGD.out.steep HGD.out.th).mono ?_
  rintro e w7 ⟨rfl, hb⟩
  obtain ⟨T, hT⟩ : ∃ T, thickH S.th S.steep hl x.at_ = T := ⟨_, rfl⟩
  rw [hT]
  have htr := thick_range HTH.out.2.1 S.steep hl x.at_
  rw [hT] at htr
  have HTR := Lib.hid htr
  have hwt : IntKind.i64.wrap (T - g) = T - g := by have := HTH.out; have := HGR.out; have := HN.out.2; have := HLJ.out; rw [IntKind.wrap_i64]; omega
  have HRF := Lib.hid (show realF S.th S.steep hl g x.at_ = max 0 (T - g) by unfold realF; rw [hT])
  have HB7 := Lib.hid (HB6.out.trans (hb.mono HB6.out.size))
  have KR7 := Lib.hid (KR6.out.belowS hb)
  have KP7 := Lib.hid (KP6.out.belowS hb)
  have KF7 := Lib.hid (KF6.out.belowS hb)
  have KX7 := Lib.hid (KX6.out.belowS hb)
  have HR7 := Lib.hid (HR6.out.below hb)
  have HB57 := Lib.hid (HB56.out.trans (hb.mono HB56.out.size))
  clear f0 f1 f2 f3 f4 f5 lf x0 x1 x2 x3 lx
  clear hb hT htr KR6 KP6 KF6 KX6 HR6
  go_upto_region 11 with fail
  clear hwt
  obtain ⟨RL, hRL⟩ : ∃ RL, max 0 (T - g) = RL := ⟨_, rfl⟩
  rw [hRL]
  have HRL := Lib.hid (show realF S.th S.steep hl g x.at_ = RL by rw [HRF.out, hRL])
  have HRB := Lib.hid (show 0 ≤ RL ∧ RL ≤ 2000 by have := HTR.out; have := HTH.out; have := HGR.out; omega)
  clear hRL
  obtain ⟨x0, x1, x2, x3⟩ := (show w7.cell? ⟨w5.heap.size, 0, none⟩ = some (.int .i64 x.at_.x) ∧ w7.cell? ⟨w5.heap.size, 1, none⟩ = some (.int .i64 x.at_.y) ∧ w7.cell? ⟨w5.heap.size, 2, none⟩ = some (.int .i64 x.r) ∧ w7.cell? ⟨w5.heap.size, 3, none⟩ = some (.int .i64 x.n) from ⟨KX7.out.cell 0, KX7.out.cell 1, KX7.out.cell 2, KX7.out.cell 3⟩)
  have lx := KX7.out.lt
  have hw1 : IntKind.i64.wrap (x.n + 1) = x.n + 1 := by have := HN0.out; rw [IntKind.wrap_i64]; omega
  have hnz : ((x.n + 1) == 0) = false := by have := HN0.out; rw [beq_eq_false_iff_ne]; omega
  have hnz' : ¬ (x.n + 1 = 0) := by have := HN0.out; omega
  go_upto_region 12 with fail
  clear hw1 hnz hnz'
  clear x0 x1 x2 x3 lx
  obtain ⟨o, ho⟩ : ∃ o, x.r.tmod (x.n + 1) = o := ⟨_, rfl⟩
  have hob := off_bd (r := x.r) HN0.out.1
  rw [ho] at hob ⊢
  have HOB := Lib.hid hob
  have hw2 : IntKind.i64.wrap (RL + o) = RL + o := by have := HRB.out; have := HN0.out; rw [IntKind.wrap_i64]; omega
  obtain ⟨RR, hRR⟩ : ∃ RR, min 2000 (max 0 (RL + o)) = RR := ⟨_, rfl⟩
  have HQ := Lib.hid (tinv_probe (r := RR) (n := x.n) (p := x.at_) HSK.out (HLIP.out g) HTI5.out (by omega) (by have := HN0.out; omega) (by have := HRB.out; rw [HRL.out]; omega) (by have := HRB.out; rw [HRL.out]; omega))
  have HRR2 := Lib.hid hRR
  clear ho hob hRR
  obtain ⟨r0, r1, r2, r3, r4, r5⟩ := skn_cells (S := R) KR7.out
  have lr := KR7.out.lt
  obtain ⟨x0, x1, x2, x3⟩ := (show w7.cell? ⟨w5.heap.size, 0, none⟩ = some (.int .i64 x.at_.x) ∧ w7.cell? ⟨w5.heap.size, 1, none⟩ = some (.int .i64 x.at_.y) ∧ w7.cell? ⟨w5.heap.size, 2, none⟩ = some (.int .i64 x.r) ∧ w7.cell? ⟨w5.heap.size, 3, none⟩ = some (.int .i64 x.n) from ⟨KX7.out.cell 0, KX7.out.cell 1, KX7.out.cell 2, KX7.out.cell 3⟩)
  have lx := KX7.out.lt
  go_wp2_with fail
  rw [HRR2.out]
  refine (wearProbe_any R x.at_ RR x.n _ HR7.out (HG.out.below HB7.out)).mono ?_
  rintro e w8 ⟨⟨T2, rfl, hT2, hF2, hP2, hZ2⟩, hb⟩
  obtain ⟨E, hE⟩ : ∃ E, probeE R x.at_ RR x.n = E := ⟨_, rfl⟩
  rw [hE] at hP2 hZ2 ⊢
  have HE := Lib.hid hE
  have kT := Blk.new w8 30 #[.slice T2.pa T2.pts.length T2.pc, .slice T2.ha T2.hs.length T2.hc, .int .i64 T2.steep, .int .i64 T2.th.lo, .int .i64 T2.th.hi, .slice T2.ma T2.ms.length T2.mc]
  have hb9 : Below w8.heap.size w8 (w8.alloc (.cells #[.slice T2.pa T2.pts.length T2.pc, .slice T2.ha T2.hs.length T2.hc, .int .i64 T2.steep, .int .i64 T2.th.lo, .int .i64 T2.th.hi, .slice T2.ma T2.ms.length T2.mc] 30)) := (Below.refl _ w8).alloc (Nat.le_refl _) _
  have hb79 := hb.trans (hb9.mono hb.size)
  have HB9 := Lib.hid (HB7.out.trans (hb79.mono HB7.out.size))
  have HB59 := Lib.hid (HB57.out.trans (hb79.mono HB57.out.size))
  have KR9 := Lib.hid (KR7.out.belowS hb79)
  have KP9 := Lib.hid (KP7.out.belowS hb79)
  have KF9 := Lib.hid (KF7.out.belowS hb79)
  have HT9 := Lib.hid (hT2.below hb9)
  have HF9 := Lib.hid (hF2.mono (show w3.heap.size + 1 ≤ w7.heap.size from KF7.out.lt))
  have HP9 := Lib.hid hP2
  clear r0 r1 r2 r3 r4 r5 lr x0 x1 x2 x3 lx
  clear hb hb9 hb79 hE hT2 hF2 hP2 hZ2 hw2 KR7 KP7 KF7 KX7 HR7
  unfold sknC
  go_upto_region 13 with fail
  generalize w8.alloc (.cells #[.slice T2.pa T2.pts.length T2.pc, .slice T2.ha T2.hs.length T2.hc, .int .i64 T2.steep, .int .i64 T2.th.lo, .int .i64 T2.th.hi, .slice T2.ma T2.ms.length T2.mc] 30) = w9 at *
  have KT9 := Lib.hid kT
  clear kT
  have hE3 := HQ.out.1
  rw [HE.out] at hE3
  have hnext : R = S ∨ (IsSkn w9 R ∧ Fresh (w3.heap.size + 1) R) := by
    rcases HRR.out with h | h
    · exact .inl h
    · exact .inr ⟨h.1.below HB59.out, h.2⟩
  have HNX := Lib.hid hnext
  clear hnext
  rcases hE3 with rfl | rfl | rfl
  · go_wp2_with fail
    exact ⟨⟨j + 1, R, g, by have := HLJ.out; omega, by simp, rfl, by have := HGR.out; omega, KR9.out, KP9.out, KF9.out, HTI5.out, HNX.out, HB9.out⟩, by have := HLJ.out; simp [intOf]; omega⟩
  · go_wp2_with fail
    exact ⟨⟨j + 1, R, g, by have := HLJ.out; omega, by simp, rfl, by have := HGR.out; omega, KR9.out, KP9.out, KF9.out, HTI5.out, HNX.out, HB9.out⟩, by have := HLJ.out; simp [intOf]; omega⟩
  have HTI9 := Lib.hid (HQ.out.2 HE.out T2 (HP9.out (by first | rfl | trivial)))
  obtain ⟨r0, r1, r2, r3, r4, r5⟩ := skn_cells (S := R) KR9.out
  have lr := KR9.out.lt
  obtain ⟨s0, s1, s2, s3, s4, s5⟩ := skn_cells (S := T2) KT9.out
  have ls := KT9.out.lt
  have z0 := KR9.out.frozen 0
  have z1 := KR9.out.frozen 1
  have z2 := KR9.out.frozen 2
  have z3 := KR9.out.frozen 3
  have z4 := KR9.out.frozen 4
  have z5 := KR9.out.frozen 5
  go_upto_region 17 with fail
  have kf : Blk ((((((w9.setCell ⟨w.heap.size, 0, none⟩ (.slice T2.pa T2.pts.length T2.pc)).setCell ⟨w.heap.size, 1, none⟩ (.slice T2.ha T2.hs.length T2.hc)).setCell ⟨w.heap.size, 2, none⟩ (.int .i64 T2.steep)).setCell ⟨w.heap.size, 3, none⟩ (.int .i64 T2.th.lo)).setCell ⟨w.heap.size, 4, none⟩ (.int .i64 T2.th.hi)).setCell ⟨w.heap.size, 5, none⟩ (.slice T2.ma T2.ms.length T2.mc)) w.heap.size #[.slice T2.pa T2.pts.length T2.pc, .slice T2.ha T2.hs.length T2.hc, .int .i64 T2.steep, .int .i64 T2.th.lo, .int .i64 T2.th.hi, .slice T2.ma T2.ms.length T2.mc] 30 := ((((((KR9.out.set 0 (.slice T2.pa T2.pts.length T2.pc)).set 1 (.slice T2.ha T2.hs.length T2.hc)).set 2 (.int .i64 T2.steep)).set 3 (.int .i64 T2.th.lo)).set 4 (.int .i64 T2.th.hi)).set 5 (.slice T2.ma T2.ms.length T2.mc))
  have ht : Turn (fun k => k = w.heap.size) w9 ((((((w9.setCell ⟨w.heap.size, 0, none⟩ (.slice T2.pa T2.pts.length T2.pc)).setCell ⟨w.heap.size, 1, none⟩ (.slice T2.ha T2.hs.length T2.hc)).setCell ⟨w.heap.size, 2, none⟩ (.int .i64 T2.steep)).setCell ⟨w.heap.size, 3, none⟩ (.int .i64 T2.th.lo)).setCell ⟨w.heap.size, 4, none⟩ (.int .i64 T2.th.hi)).setCell ⟨w.heap.size, 5, none⟩ (.slice T2.ma T2.ms.length T2.mc)) := (((((((Turn.of_below (X := fun k => k = w.heap.size) (Below.refl _ w9)).setCell (B := w.heap.size) rfl 0 (.slice T2.pa T2.pts.length T2.pc)).setCell (B := w.heap.size) rfl 1 (.slice T2.ha T2.hs.length T2.hc)).setCell (B := w.heap.size) rfl 2 (.int .i64 T2.steep)).setCell (B := w.heap.size) rfl 3 (.int .i64 T2.th.lo)).setCell (B := w.heap.size) rfl 4 (.int .i64 T2.th.hi)).setCell (B := w.heap.size) rfl 5 (.slice T2.ma T2.ms.length T2.mc))
  generalize ((((((w9.setCell ⟨w.heap.size, 0, none⟩ (.slice T2.pa T2.pts.length T2.pc)).setCell ⟨w.heap.size, 1, none⟩ (.slice T2.ha T2.hs.length T2.hc)).setCell ⟨w.heap.size, 2, none⟩ (.int .i64 T2.steep)).setCell ⟨w.heap.size, 3, none⟩ (.int .i64 T2.th.lo)).setCell ⟨w.heap.size, 4, none⟩ (.int .i64 T2.th.hi)).setCell ⟨w.heap.size, 5, none⟩ (.slice T2.ma T2.ms.length T2.mc)) = w10 at *
  have KR10 := Lib.hid kf
  have KP10 := Lib.hid (ht.blk KP9.out (fun e => by have := (show w.heap.size + 1 = w.heap.size from e); omega))
  have KF10 := Lib.hid (ht.blk KF9.out (fun e => by have := (show w3.heap.size = w.heap.size from e); have := HLT3.out; omega))
  have HT10 := Lib.hid (HT9.out.turnF HF9.out ht (fun k e => by have := (show k = w.heap.size from e); have := HLT3.out; omega))
  have HB10 := Lib.hid (HB9.out.trans (ht.below (base := w.heap.size) HB9.out.size (fun k e => by rw [show k = w.heap.size from e]; exact Nat.le_refl _)))
  clear r0 r1 r2 r3 r4 r5 lr s0 s1 s2 s3 s4 s5 ls
  clear z0 z1 z2 z3 z4 z5 kf ht KR9 KP9 KF9 KT9 HT9
  by_cases hm3 : j % 3 = 2
  rotate_left
  · have hmm : (j : Int).tmod 3 = ((j % 3 : Nat) : Int) := by rw [Int.tmod_eq_emod_of_nonneg hj0]; omega
    have hmm' : (j : Int) % 3 = ((j % 3 : Nat) : Int) := by omega
    have hne2 : (((j % 3 : Nat) : Int) == 2) = false := by rw [beq_eq_false_iff_ne]; omega
    obtain ⟨q3, hq3⟩ : ∃ q3, j % 3 = q3 := ⟨_, rfl⟩
    rw [hq3] at hmm hmm' hne2
    clear hm3 hq3
    go_wp2_with fail
    exact ⟨⟨j + 1, T2, g, by have := HLJ.out; omega, by simp, rfl, by have := HGR.out; omega, KR10.out, KP10.out, KF10.out, HTI9.out, .inr ⟨HT10.out, HF9.out⟩, HB10.out⟩, by have := HLJ.out; simp [intOf]; omega⟩
  have hmm : (j : Int).tmod 3 = 2 := by rw [Int.tmod_eq_emod_of_nonneg hj0]; omega
  have hmm' : (j : Int) % 3 = 2 := by omega
  obtain ⟨tk, htk⟩ : ∃ tk, 5 + (max 0 o) % 6 = tk := ⟨_, rfl⟩
  have hmx : 0 ≤ max 0 o := by omega
  have htb : 5 ≤ tk ∧ tk ≤ 10 := by omega
  have HTB := Lib.hid htb
  have hw5 : IntKind.i64.wrap (5 + (max 0 o).tmod 6) = 5 + (max 0 o).tmod 6 := by
    have := Int.tmod_eq_emod_of_nonneg (b := 6) hmx
    rw [this, IntKind.wrap_i64]; omega
  have HTK := Lib.hid htk
  clear hm3 htk hmx htb
  go_upto_region 19 with fail
  rw [HTK.out]
  clear hw5 hmm hmm'
  obtain ⟨s0, s1, s2, s3, s4, s5⟩ := skn_cells (S := T2) KR10.out
  have ls := KR10.out.lt
  go_wp2_with fail
  refine (wearSeason_any T2 ⟨5, 10⟩ 0 _ HT10.out (HG.out.below HB10.out)).mono ?_
  rintro e w11 ⟨⟨U, rfl, hU, hFU, hPU, hZU⟩, hb⟩
  rw [season_ok HSK.out (HLIP.out g) HTI9.out] at hPU hZU ⊢
  have kU := Blk.new w11 30 #[.slice U.pa U.pts.length U.pc, .slice U.ha U.hs.length U.hc, .int .i64 U.steep, .int .i64 U.th.lo, .int .i64 U.th.hi, .slice U.ma U.ms.length U.mc]
  have hb12 : Below w11.heap.size w11 (w11.alloc (.cells #[.slice U.pa U.pts.length U.pc, .slice U.ha U.hs.length U.hc, .int .i64 U.steep, .int .i64 U.th.lo, .int .i64 U.th.hi, .slice U.ma U.ms.length U.mc] 30)) := (Below.refl _ w11).alloc (Nat.le_refl _) _
  have hb1012 := hb.trans (hb12.mono hb.size)
  have HB12 := Lib.hid (HB10.out.trans (hb1012.mono HB10.out.size))
  have KR12 := Lib.hid (KR10.out.belowS hb1012)
  have KP12 := Lib.hid (KP10.out.belowS hb1012)
  have KF12 := Lib.hid (KF10.out.belowS hb1012)
  have HU12 := Lib.hid (hU.below hb12)
  have HFU := Lib.hid (hFU.mono (show w3.heap.size + 1 ≤ w10.heap.size from KF10.out.lt))
  have HTU := Lib.hid (tinv_season HTI9.out (hPU rfl) HTB.out)
  clear s0 s1 s2 s3 s4 s5 ls
  clear hb hb12 hb1012 hU hFU hPU hZU KR10 KP10 KF10 HT10
  unfold sknC
  go_upto_region 20 with fail
  generalize w11.alloc (.cells #[.slice U.pa U.pts.length U.pc, .slice U.ha U.hs.length U.hc, .int .i64 U.steep, .int .i64 U.th.lo, .int .i64 U.th.hi, .slice U.ma U.ms.length U.mc] 30) = w12 at *
  have KU12 := Lib.hid kU
  clear kU
  obtain ⟨r0, r1, r2, r3, r4, r5⟩ := skn_cells (S := T2) KR12.out
  have lr := KR12.out.lt
  obtain ⟨s0, s1, s2, s3, s4, s5⟩ := skn_cells (S := U) KU12.out
  have ls := KU12.out.lt
  have z0 := KR12.out.frozen 0
  have z1 := KR12.out.frozen 1
  have z2 := KR12.out.frozen 2
  have z3 := KR12.out.frozen 3
  have z4 := KR12.out.frozen 4
  have z5 := KR12.out.frozen 5
  have hw6 : IntKind.i64.wrap (g + tk) = g + tk := by have := HGR.out; have := HTB.out; have := HN.out.2; have := HLJ.out; rw [IntKind.wrap_i64]; omega
  go_wp2_with fail
  have kf : Blk ((((((w12.setCell ⟨w.heap.size, 0, none⟩ (.slice U.pa U.pts.length U.pc)).setCell ⟨w.heap.size, 1, none⟩ (.slice U.ha U.hs.length U.hc)).setCell ⟨w.heap.size, 2, none⟩ (.int .i64 U.steep)).setCell ⟨w.heap.size, 3, none⟩ (.int .i64 U.th.lo)).setCell ⟨w.heap.size, 4, none⟩ (.int .i64 U.th.hi)).setCell ⟨w.heap.size, 5, none⟩ (.slice U.ma U.ms.length U.mc)) w.heap.size #[.slice U.pa U.pts.length U.pc, .slice U.ha U.hs.length U.hc, .int .i64 U.steep, .int .i64 U.th.lo, .int .i64 U.th.hi, .slice U.ma U.ms.length U.mc] 30 := ((((((KR12.out.set 0 (.slice U.pa U.pts.length U.pc)).set 1 (.slice U.ha U.hs.length U.hc)).set 2 (.int .i64 U.steep)).set 3 (.int .i64 U.th.lo)).set 4 (.int .i64 U.th.hi)).set 5 (.slice U.ma U.ms.length U.mc))
  have ht : Turn (fun k => k = w.heap.size) w12 ((((((w12.setCell ⟨w.heap.size, 0, none⟩ (.slice U.pa U.pts.length U.pc)).setCell ⟨w.heap.size, 1, none⟩ (.slice U.ha U.hs.length U.hc)).setCell ⟨w.heap.size, 2, none⟩ (.int .i64 U.steep)).setCell ⟨w.heap.size, 3, none⟩ (.int .i64 U.th.lo)).setCell ⟨w.heap.size, 4, none⟩ (.int .i64 U.th.hi)).setCell ⟨w.heap.size, 5, none⟩ (.slice U.ma U.ms.length U.mc)) := (((((((Turn.of_below (X := fun k => k = w.heap.size) (Below.refl _ w12)).setCell (B := w.heap.size) rfl 0 (.slice U.pa U.pts.length U.pc)).setCell (B := w.heap.size) rfl 1 (.slice U.ha U.hs.length U.hc)).setCell (B := w.heap.size) rfl 2 (.int .i64 U.steep)).setCell (B := w.heap.size) rfl 3 (.int .i64 U.th.lo)).setCell (B := w.heap.size) rfl 4 (.int .i64 U.th.hi)).setCell (B := w.heap.size) rfl 5 (.slice U.ma U.ms.length U.mc))
  generalize ((((((w12.setCell ⟨w.heap.size, 0, none⟩ (.slice U.pa U.pts.length U.pc)).setCell ⟨w.heap.size, 1, none⟩ (.slice U.ha U.hs.length U.hc)).setCell ⟨w.heap.size, 2, none⟩ (.int .i64 U.steep)).setCell ⟨w.heap.size, 3, none⟩ (.int .i64 U.th.lo)).setCell ⟨w.heap.size, 4, none⟩ (.int .i64 U.th.hi)).setCell ⟨w.heap.size, 5, none⟩ (.slice U.ma U.ms.length U.mc)) = w13 at *
  exact ⟨⟨j + 1, U, g + tk, by have := HLJ.out; omega, by simp, rfl, by have := HGR.out; have := HTB.out; omega, kf, ht.blk KP12.out (fun e => by have := (show w.heap.size + 1 = w.heap.size from e); omega), ht.blk KF12.out (fun e => by have := (show w3.heap.size = w.heap.size from e); have := HLT3.out; omega), HTU.out, .inr ⟨HU12.out.turnF HFU.out ht (fun k e => by have := (show k = w.heap.size from e); have := HLT3.out; omega), HFU.out⟩, HB12.out.trans (ht.below (base := w.heap.size) HB12.out.size (fun k e => by rw [show k = w.heap.size from e]; exact Nat.le_refl _))⟩, by have := HLJ.out; simp [intOf]; omega⟩
end Go.Proofs.YtoigihmgjacbjaaDoor
