/- What a probe leaves: probed, Probe. No condition but the package's variable. -/
import Derived.Test.YtoigihmgjacbjaaDoorVS
import Derived.Test.YtoigihmgjacbjaaDoorVI
set_option linter.unusedSimpArgs false
namespace Go.Proofs.YtoigihmgjacbjaaDoor
open Go.RowKit

structure Probed (x : Mrk) (S R : Skn) : Prop where
  pts : R.pts = S.pts
  hs : R.hs = S.hs
  steep : R.steep = S.steep
  th : R.th = S.th
  ms : R.ms = insK x S.ms
def withMs (S : Skn) (l : List Mrk) : Skn := { S with ms := l }
/-- The first error of a mark that is put in. -/
def probedE (S : Skn) (x : Mrk) : Int := if 40 < (insK x S.ms).length then 3 else thickE (withMs S (insK x S.ms))
def probeE (S : Skn) (p : Pnt) (r n : Int) : Int := if ¬ pointE S p = 0 then pointE S p else if (isFromB r 0 2000 && isFromB n 0 2000) = false then 1 else probedE S ⟨p, saidM r n⟩
theorem thickE_data {S R : Skn} (h1 : R.steep = S.steep) (h2 : R.th = S.th) (h3 : R.ms = S.ms) : thickE R = thickE S := by
  have hb : ∀ p, boundM R p = boundM S p := fun p => by unfold boundM; rw [h1, h2, h3]
  unfold thickE
  rw [h3]
  simp only [hb]
theorem com_in {a b : Spn} (ha : 0 ≤ a.lo ∧ a.hi ≤ 2000) (hb : 0 ≤ b.lo ∧ b.hi ≤ 2000) : comM a b = nothingS ∨ (0 ≤ (comM a b).lo ∧ (comM a b).lo ≤ (comM a b).hi ∧ (comM a b).hi ≤ 2000) := by
  unfold comM
  split
  · exact .inl rfl
  · refine .inr ⟨?_, ?_, ?_⟩
    · show 0 ≤ max a.lo b.lo
      omega
    · show max a.lo b.lo ≤ min a.hi b.hi
      omega
    · show min a.hi b.hi ≤ 2000
      omega
theorem said_in {r n : Int} (hr : 0 ≤ r ∧ r ≤ 2000) (hn : 0 ≤ n ∧ n ≤ 2000) : saidM r n = ⟨max 0 (r - n), min 2000 (r + n)⟩ ∧ isSpanB (saidM r n) 0 2000 = true := by
  have e : saidM r n = ⟨max 0 (r - n), min 2000 (r + n)⟩ := by
    unfold saidM comM widM
    simp only
    rw [if_neg (by omega)]
    simp only [Spn.mk.injEq]
    omega
  refine ⟨e, ?_⟩
  rw [e, isSpanB_iff]
  simp only
  omega
theorem ins_in {l : List Mrk} {x : Mrk} (hl : ∀ m ∈ l, mrkOk m) (hx : mrkOk x) : ∀ m ∈ insK x l, mrkIn m := fun m hm => by
  rcases insK_mem x l m hm with h | rfl | ⟨y, hy, he, rfl⟩
  · exact mrkIn_ok (hl m h)
  · exact mrkIn_ok hx
  · have h1 := isSpanB_iff.1 (hl y hy).2
    have h2 := isSpanB_iff.1 hx.2
    rcases com_in (a := y.th) (b := x.th) (by omega) (by omega) with h | h
    · refine ⟨hx.1, ?_⟩
      simp only [h, nothingS]
      omega
    · refine ⟨hx.1, ?_⟩
      simp only
      omega

set_option maxRecDepth 100000 in
set_option maxHeartbeats 16000000 in
theorem probed_any (S : Skn) (x : Mrk) (w : World) (hS : IsSkn w S) (hg : Laid w) (hgood : SkinGood S) (hx : mrkOk x) :
    Calls Tryd.prog 44 #[.agg #[.slice S.pa S.pts.length S.pc, .slice S.ha S.hs.length S.hc, .int .i64 S.steep, .int .i64 S.th.lo, .int .i64 S.th.hi, .slice S.ma S.ms.length S.mc], .agg #[.int .i64 x.at_.x, .int .i64 x.at_.y, .int .i64 x.th.lo, .int .i64 x.th.hi]] w (SkinDone (probedE S x) (Probed x S) w) := by
  have k1 := ((Blk.new w 30 #[.slice S.pa S.pts.length S.pc, .slice S.ha S.hs.length S.hc, .int .i64 S.steep, .int .i64 S.th.lo, .int .i64 S.th.hi, .slice S.ma S.ms.length S.mc]).alloc (.cells #[.int .i64 x.at_.x, .int .i64 x.at_.y, .int .i64 x.th.lo, .int .i64 x.th.hi] 61)).alloc (.cells #[.slice none 0 0, .slice none 0 0, .int .i64 0, .int .i64 0, .int .i64 0, .slice none 0 0] 30)
  have k2 := (Blk.new (w.alloc (.cells #[.slice S.pa S.pts.length S.pc, .slice S.ha S.hs.length S.hc, .int .i64 S.steep, .int .i64 S.th.lo, .int .i64 S.th.hi, .slice S.ma S.ms.length S.mc] 30)) 61 #[.int .i64 x.at_.x, .int .i64 x.at_.y, .int .i64 x.th.lo, .int .i64 x.th.hi]).alloc (.cells #[.slice none 0 0, .slice none 0 0, .int .i64 0, .int .i64 0, .int .i64 0, .slice none 0 0] 30)
  have k3 := Blk.new ((w.alloc (.cells #[.slice S.pa S.pts.length S.pc, .slice S.ha S.hs.length S.hc, .int .i64 S.steep, .int .i64 S.th.lo, .int .i64 S.th.hi, .slice S.ma S.ms.length S.mc] 30)).alloc (.cells #[.int .i64 x.at_.x, .int .i64 x.at_.y, .int .i64 x.th.lo, .int .i64 x.th.hi] 61)) 30 #[.slice none 0 0, .slice none 0 0, .int .i64 0, .int .i64 0, .int .i64 0, .slice none 0 0]
  rw [World.size_alloc] at k2
  rw [World.size_alloc, World.size_alloc] at k3
  have hb1 : Below w.heap.size w (((w.alloc (.cells #[.slice S.pa S.pts.length S.pc, .slice S.ha S.hs.length S.hc, .int .i64 S.steep, .int .i64 S.th.lo, .int .i64 S.th.hi, .slice S.ma S.ms.length S.mc] 30)).alloc (.cells #[.int .i64 x.at_.x, .int .i64 x.at_.y, .int .i64 x.th.lo, .int .i64 x.th.hi] 61)).alloc (.cells #[.slice none 0 0, .slice none 0 0, .int .i64 0, .int .i64 0, .int .i64 0, .slice none 0 0] 30)) := (((Below.refl _ w).alloc (Nat.le_refl _) _).alloc (by simp) _).alloc (by simp; omega) _
  have HS := Lib.hid hS
  have HG := Lib.hid hg
  have HGD := Lib.hid hgood
  have HX := Lib.hid hx
  clear hS hg hgood hx
  go_enter Tryd.func44, Tryd.ntmps44
  go_upto_region 1 with fail
  generalize (((w.alloc (.cells #[.slice S.pa S.pts.length S.pc, .slice S.ha S.hs.length S.hc, .int .i64 S.steep, .int .i64 S.th.lo, .int .i64 S.th.hi, .slice S.ma S.ms.length S.mc] 30)).alloc (.cells #[.int .i64 x.at_.x, .int .i64 x.at_.y, .int .i64 x.th.lo, .int .i64 x.th.hi] 61)).alloc (.cells #[.slice none 0 0, .slice none 0 0, .int .i64 0, .int .i64 0, .int .i64 0, .slice none 0 0] 30)) = w1 at *
  obtain ⟨s0, s1, s2, s3, s4, s5⟩ := skn_cells (S := S) k1
  have l1 := k1.lt
  have HB1 := Lib.hid hb1
  have K1 := Lib.hid k1
  have K2 := Lib.hid k2
  have K3 := Lib.hid k3
  clear k1 k2 k3 hb1
  go_wp2_with fail
  refine (copyOf_any S _ (HS.out.below HB1.out) (by have := (areaE_ok HGD.out.area).1; omega) (by have := area_holes HGD.out.area; omega) (by have := HGD.out.few; omega)).mono ?_
  rintro e w2 ⟨⟨a1, a2, a3, c1, c2, c3, n, rfl, hn, hfar, hp, hh, hmk, how, hnw⟩, hb⟩
  have HB2 := Lib.hid (HB1.out.trans (hb.mono HB1.out.size))
  have k5 := Blk.new w2 30 #[.slice a1 S.pts.length c1, .slice a2 S.hs.length c2, .int .i64 S.steep, .int .i64 S.th.lo, .int .i64 S.th.hi, .slice a3 S.ms.length c3]
  have hb3 : Below w2.heap.size w2 (w2.alloc (.cells #[.slice a1 S.pts.length c1, .slice a2 S.hs.length c2, .int .i64 S.steep, .int .i64 S.th.lo, .int .i64 S.th.hi, .slice a3 S.ms.length c3] 30)) := (Below.refl _ w2).alloc (Nat.le_refl _) _
  have hb13 := hb.trans (hb3.mono hb.size)
  have HB3 := Lib.hid (HB2.out.trans (hb3.mono HB2.out.size))
  have K13 := Lib.hid (K1.out.belowS hb13)
  have K23 := Lib.hid (K2.out.belowS hb13)
  have K33 := Lib.hid (K3.out.belowS hb13)
  have HLT := Lib.hid (show w.heap.size + 3 ≤ w2.heap.size by have := K3.out.lt; have := hb.size; omega)
  have HW1 := Lib.hid (show w.heap.size + 3 ≤ w1.heap.size by have := K3.out.lt; omega)
  have HFAR := Lib.hid hfar
  have HNW := Lib.hid hnw
  have HP := Lib.hid (hp.below hb3)
  have HH := Lib.hid (hh.below hb3)
  clear s0 s1 s2 s3 s4 s5 l1 hb hb3 hb13 hn hfar hp hh hmk how hnw K1 K2 K3
  go_upto_region 2 with fail
  generalize w2.alloc (.cells #[.slice a1 S.pts.length c1, .slice a2 S.hs.length c2, .int .i64 S.steep, .int .i64 S.th.lo, .int .i64 S.th.hi, .slice a3 S.ms.length c3] 30) = w3 at *
  have HL5 := Lib.hid k5.lt
  have K53 := Lib.hid k5
  clear k5
  obtain ⟨s0, s1, s2, s3, s4, s5⟩ := skn_cells (S := S) K13.out
  obtain ⟨x0, x1, x2, x3⟩ := (show w3.cell? ⟨w.heap.size + 1, 0, none⟩ = some (.int .i64 x.at_.x) ∧ w3.cell? ⟨w.heap.size + 1, 1, none⟩ = some (.int .i64 x.at_.y) ∧ w3.cell? ⟨w.heap.size + 1, 2, none⟩ = some (.int .i64 x.th.lo) ∧ w3.cell? ⟨w.heap.size + 1, 3, none⟩ = some (.int .i64 x.th.hi) from ⟨K23.out.cell 0, K23.out.cell 1, K23.out.cell 2, K23.out.cell 3⟩)
  have l1 := K13.out.lt
  have l2 := K23.out.lt
  go_wp2_with fail
  refine (with_any S.ma S.mc S.ms x _ (HS.out.below HB3.out).ms (HG.out.below HB3.out) HGD.out.ord (by have := HGD.out.few; omega)).mono ?_
  rintro e w4 ⟨⟨a4, c4, rfl, ho⟩, hb⟩
  have HB4 := Lib.hid (HB3.out.trans (hb.mono HB3.out.size))
  have K24 := Lib.hid (K23.out.belowS hb)
  have K34 := Lib.hid (K33.out.belowS hb)
  have K54 := Lib.hid (K53.out.belowS hb)
  have HP4 := Lib.hid (HP.out.below hb)
  have HH4 := Lib.hid (HH.out.below hb)
  have HM4 := Lib.hid (mrk_own ho).1
  have HOW := Lib.hid (own_where ho)
  clear s0 s1 s2 s3 s4 s5 x0 x1 x2 x3 l1 l2 hb ho K13 K23 K33 K53 HP HH
  have l5 := K54.out.lt
  have z5 := K54.out.frozen 5
  obtain ⟨q0, q1, q2, q3, q4, q5⟩ := (show w4.cell? ⟨w2.heap.size, 0, none⟩ = some (.slice a1 S.pts.length c1) ∧ w4.cell? ⟨w2.heap.size, 1, none⟩ = some (.slice a2 S.hs.length c2) ∧ w4.cell? ⟨w2.heap.size, 2, none⟩ = some (.int .i64 S.steep) ∧ w4.cell? ⟨w2.heap.size, 3, none⟩ = some (.int .i64 S.th.lo) ∧ w4.cell? ⟨w2.heap.size, 4, none⟩ = some (.int .i64 S.th.hi) ∧ w4.cell? ⟨w2.heap.size, 5, none⟩ = some (.slice a3 S.ms.length c3) from ⟨K54.out.cell 0, K54.out.cell 1, K54.out.cell 2, K54.out.cell 3, K54.out.cell 4, K54.out.cell 5⟩)
  go_upto_region 3 with fail
  have kf : Blk (w4.setCell ⟨w2.heap.size, 5, none⟩ (.slice a4 (insK x S.ms).length c4)) w2.heap.size #[.slice a1 S.pts.length c1, .slice a2 S.hs.length c2, .int .i64 S.steep, .int .i64 S.th.lo, .int .i64 S.th.hi, .slice a4 (insK x S.ms).length c4] 30 := K54.out.set 5 _
  have ht : Turn (fun k => k = w2.heap.size) w4 (w4.setCell ⟨w2.heap.size, 5, none⟩ (.slice a4 (insK x S.ms).length c4)) := (Turn.of_below (X := fun k => k = w2.heap.size) (Below.refl _ w4)).setCell (B := w2.heap.size) rfl 5 _
  generalize w4.setCell ⟨w2.heap.size, 5, none⟩ (.slice a4 (insK x S.ms).length c4) = w5 at *
  have HB5 := Lib.hid (HB4.out.trans (ht.below HB4.out.size (fun k e => by rw [show k = w2.heap.size from e]; have := HLT.out; omega)))
  have K35 := Lib.hid (ht.blk K34.out (fun e => by have := HLT.out; have := (show w.heap.size + 1 + 1 = w2.heap.size from e); omega))
  have K55 := Lib.hid kf
  have HR5 := Lib.hid (show IsSkn w5 ⟨a1, c1, S.pts, a2, c2, S.hs, S.steep, S.th, a4, c4, insK x S.ms⟩ from ⟨HP4.out.turn ht (fun y hy e => by have := (HFAR.out y (.inl hy)).2; have := HNW.out; have := (show y.block = w2.heap.size from e); omega),
    HH4.out.turn ht (fun y hy e => by have := (HFAR.out y (.inr hy)).2; have := HNW.out; have := (show y.block = w2.heap.size from e); omega),
    HM4.out.turn ht (fun y hy e => by have := (HOW.out y hy).1; have := HL5.out; have := (show y.block = w2.heap.size from e); omega)⟩)
  have HF5 := Lib.hid (show Fresh (w.heap.size + 3) ⟨a1, c1, S.pts, a2, c2, S.hs, S.steep, S.th, a4, c4, insK x S.ms⟩ from Fresh.mk3 (fun y hy => by have := (HFAR.out y (.inl hy)).1; have := HW1.out; omega) (fun y hy => by have := (HFAR.out y (.inr hy)).1; have := HW1.out; omega) (fun y hy => by have := (HOW.out y hy).1; have := HL5.out; have := HLT.out; omega))
  clear q0 q1 q2 q3 q4 q5 z5 l5 kf ht K24 K34 K54 HP4 HH4 HM4
  obtain ⟨q0, q1, q2, q3, q4, q5⟩ := (show w5.cell? ⟨w2.heap.size, 0, none⟩ = some (.slice a1 S.pts.length c1) ∧ w5.cell? ⟨w2.heap.size, 1, none⟩ = some (.slice a2 S.hs.length c2) ∧ w5.cell? ⟨w2.heap.size, 2, none⟩ = some (.int .i64 S.steep) ∧ w5.cell? ⟨w2.heap.size, 3, none⟩ = some (.int .i64 S.th.lo) ∧ w5.cell? ⟨w2.heap.size, 4, none⟩ = some (.int .i64 S.th.hi) ∧ w5.cell? ⟨w2.heap.size, 5, none⟩ = some (.slice a4 (insK x S.ms).length c4) from ⟨K55.out.cell 0, K55.out.cell 1, K55.out.cell 2, K55.out.cell 3, K55.out.cell 4, K55.out.cell 5⟩)
  have l5 := K55.out.lt
  by_cases h40 : 40 < (insK x S.ms).length
  · have HV := Lib.hid (show probedE S x = 3 by unfold probedE; rw [if_pos h40])
    have hd : decide (((insK x S.ms).length : Int) ≤ 40) = false := decide_eq_false (by omega)
    clear h40
    go_wp2_with fail
    (try rw [hd])
    refine (require_no 3 _).mono ?_
    rintro e w6 ⟨rfl, rfl⟩
    go_wp2_with fail
    exact ⟨rfl, .inr ⟨by rw [HV.out]; decide, by rw [HV.out]⟩, HB5.out⟩
  have HV := Lib.hid (show probedE S x = thickE ⟨a1, c1, S.pts, a2, c2, S.hs, S.steep, S.th, a4, c4, insK x S.ms⟩ by unfold probedE; rw [if_neg h40]; exact (thickE_data rfl rfl rfl))
  have hd : decide (((insK x S.ms).length : Int) ≤ 40) = true := decide_eq_true (by omega)
  clear h40
  go_wp2_with fail
  (try rw [hd])
  refine (require_yes 3 _).mono ?_
  rintro e w6 ⟨rfl, rfl⟩
  obtain ⟨w5, rfl⟩ : ∃ w5 : World, w5 = w6 := ⟨_, rfl⟩
  go_wp2_with fail
  refine (requireThick_in ⟨a1, c1, S.pts, a2, c2, S.hs, S.steep, S.th, a4, c4, insK x S.ms⟩ _ HR5.out (HG.out.below HB5.out) HGD.out.steep (ins_in (fun m hm => (HGD.out.marks m hm).1) HX.out)).mono ?_
  rintro e w6 ⟨h, hb⟩
  have HB6 := Lib.hid (HB5.out.trans (hb.mono HB5.out.size))
  have K36 := Lib.hid (K35.out.belowS hb)
  have K56 := Lib.hid (K55.out.belowS hb)
  have HR6 := Lib.hid (HR5.out.below hb)
  clear q0 q1 q2 q3 q4 q5 l5 hd hb K35 K55 HR5
  rcases h with ⟨hx, rfl⟩ | ⟨hx, rfl⟩
  rotate_left
  · have HXX := Lib.hid hx
    clear hx
    go_wp2_with fail
    exact ⟨rfl, .inr ⟨by rw [HV.out]; exact HXX.out, by rw [HV.out]⟩, HB6.out⟩
  have HXX := Lib.hid hx
  clear hx
  obtain ⟨q0, q1, q2, q3, q4, q5⟩ := (show w6.cell? ⟨w2.heap.size, 0, none⟩ = some (.slice a1 S.pts.length c1) ∧ w6.cell? ⟨w2.heap.size, 1, none⟩ = some (.slice a2 S.hs.length c2) ∧ w6.cell? ⟨w2.heap.size, 2, none⟩ = some (.int .i64 S.steep) ∧ w6.cell? ⟨w2.heap.size, 3, none⟩ = some (.int .i64 S.th.lo) ∧ w6.cell? ⟨w2.heap.size, 4, none⟩ = some (.int .i64 S.th.hi) ∧ w6.cell? ⟨w2.heap.size, 5, none⟩ = some (.slice a4 (insK x S.ms).length c4) from ⟨K56.out.cell 0, K56.out.cell 1, K56.out.cell 2, K56.out.cell 3, K56.out.cell 4, K56.out.cell 5⟩)
  have l5 := K56.out.lt
  have l3 := K36.out.lt
  have z0 := K36.out.frozen 0
  have z1 := K36.out.frozen 1
  have z2 := K36.out.frozen 2
  have z3 := K36.out.frozen 3
  have z4 := K36.out.frozen 4
  have z5 := K36.out.frozen 5
  obtain ⟨r0, r1, r2, r3, r4, r5⟩ := (show w6.cell? ⟨w.heap.size + 1 + 1, 0, none⟩ = some (.slice none 0 0) ∧ w6.cell? ⟨w.heap.size + 1 + 1, 1, none⟩ = some (.slice none 0 0) ∧ w6.cell? ⟨w.heap.size + 1 + 1, 2, none⟩ = some (.int .i64 0) ∧ w6.cell? ⟨w.heap.size + 1 + 1, 3, none⟩ = some (.int .i64 0) ∧ w6.cell? ⟨w.heap.size + 1 + 1, 4, none⟩ = some (.int .i64 0) ∧ w6.cell? ⟨w.heap.size + 1 + 1, 5, none⟩ = some (.slice none 0 0) from ⟨K36.out.cell 0, K36.out.cell 1, K36.out.cell 2, K36.out.cell 3, K36.out.cell 4, K36.out.cell 5⟩)
  go_wp2_with fail
  have kf : Blk ((((((w6.setCell ⟨w.heap.size + 1 + 1, 0, none⟩ (.slice a1 S.pts.length c1)).setCell ⟨w.heap.size + 1 + 1, 1, none⟩ (.slice a2 S.hs.length c2)).setCell ⟨w.heap.size + 1 + 1, 2, none⟩ (.int .i64 S.steep)).setCell ⟨w.heap.size + 1 + 1, 3, none⟩ (.int .i64 S.th.lo)).setCell ⟨w.heap.size + 1 + 1, 4, none⟩ (.int .i64 S.th.hi)).setCell ⟨w.heap.size + 1 + 1, 5, none⟩ (.slice a4 (insK x S.ms).length c4)) (w.heap.size + 1 + 1) #[.slice a1 S.pts.length c1, .slice a2 S.hs.length c2, .int .i64 S.steep, .int .i64 S.th.lo, .int .i64 S.th.hi, .slice a4 (insK x S.ms).length c4] 30 := ((((((K36.out.set 0 (.slice a1 S.pts.length c1)).set 1 (.slice a2 S.hs.length c2)).set 2 (.int .i64 S.steep)).set 3 (.int .i64 S.th.lo)).set 4 (.int .i64 S.th.hi)).set 5 (.slice a4 (insK x S.ms).length c4))
  have ht : Turn (fun k => k = w.heap.size + 1 + 1) w6 ((((((w6.setCell ⟨w.heap.size + 1 + 1, 0, none⟩ (.slice a1 S.pts.length c1)).setCell ⟨w.heap.size + 1 + 1, 1, none⟩ (.slice a2 S.hs.length c2)).setCell ⟨w.heap.size + 1 + 1, 2, none⟩ (.int .i64 S.steep)).setCell ⟨w.heap.size + 1 + 1, 3, none⟩ (.int .i64 S.th.lo)).setCell ⟨w.heap.size + 1 + 1, 4, none⟩ (.int .i64 S.th.hi)).setCell ⟨w.heap.size + 1 + 1, 5, none⟩ (.slice a4 (insK x S.ms).length c4)) := (((((((Turn.of_below (X := fun k => k = w.heap.size + 1 + 1) (Below.refl _ w6)).setCell (B := w.heap.size + 1 + 1) rfl 0 (.slice a1 S.pts.length c1)).setCell (B := w.heap.size + 1 + 1) rfl 1 (.slice a2 S.hs.length c2)).setCell (B := w.heap.size + 1 + 1) rfl 2 (.int .i64 S.steep)).setCell (B := w.heap.size + 1 + 1) rfl 3 (.int .i64 S.th.lo)).setCell (B := w.heap.size + 1 + 1) rfl 4 (.int .i64 S.th.hi)).setCell (B := w.heap.size + 1 + 1) rfl 5 (.slice a4 (insK x S.ms).length c4))
  generalize ((((((w6.setCell ⟨w.heap.size + 1 + 1, 0, none⟩ (.slice a1 S.pts.length c1)).setCell ⟨w.heap.size + 1 + 1, 1, none⟩ (.slice a2 S.hs.length c2)).setCell ⟨w.heap.size + 1 + 1, 2, none⟩ (.int .i64 S.steep)).setCell ⟨w.heap.size + 1 + 1, 3, none⟩ (.int .i64 S.th.lo)).setCell ⟨w.heap.size + 1 + 1, 4, none⟩ (.int .i64 S.th.hi)).setCell ⟨w.heap.size + 1 + 1, 5, none⟩ (.slice a4 (insK x S.ms).length c4)) = wf at *
  clear q0 q1 q2 q3 q4 q5 l5 l3 z0 z1 z2 z3 z4 z5 r0 r1 r2 r3 r4 r5
  obtain ⟨g0, g1, g2, g3, g4, g5⟩ := (show wf.cell? ⟨w.heap.size + 1 + 1, 0, none⟩ = some (.slice a1 S.pts.length c1) ∧ wf.cell? ⟨w.heap.size + 1 + 1, 1, none⟩ = some (.slice a2 S.hs.length c2) ∧ wf.cell? ⟨w.heap.size + 1 + 1, 2, none⟩ = some (.int .i64 S.steep) ∧ wf.cell? ⟨w.heap.size + 1 + 1, 3, none⟩ = some (.int .i64 S.th.lo) ∧ wf.cell? ⟨w.heap.size + 1 + 1, 4, none⟩ = some (.int .i64 S.th.hi) ∧ wf.cell? ⟨w.heap.size + 1 + 1, 5, none⟩ = some (.slice a4 (insK x S.ms).length c4) from ⟨kf.cell 0, kf.cell 1, kf.cell 2, kf.cell 3, kf.cell 4, kf.cell 5⟩)
  exact bodyPost_ret (v := .agg #[.slice a1 S.pts.length c1, .slice a2 S.hs.length c2, .int .i64 S.steep, .int .i64 S.th.lo, .int .i64 S.th.hi, .slice a4 (insK x S.ms).length c4]) (by simp [results, Tryd.results44, go_sem, g0, g1, g2, g3, g4, g5]) rfl ⟨.inl ⟨by rw [HV.out]; exact HXX.out, ⟨a1, c1, S.pts, a2, c2, S.hs, S.steep, S.th, a4, c4, insK x S.ms⟩, rfl, HR6.out.turnF HF5.out ht (fun k e => by have := (show k = w.heap.size + 1 + 1 from e); omega), HF5.out.mono (by omega), ⟨rfl, rfl, rfl, rfl, rfl⟩⟩, HB6.out.trans (ht.below HB6.out.size (fun k e => by rw [show k = w.heap.size + 1 + 1 from e]; omega))⟩

/-! ### Probe -/
set_option maxRecDepth 100000 in
set_option maxHeartbeats 8000000 in
theorem probeIn_any (P Q A B : Nat) (S : Skn) (p : Pnt) (r n : Int) (w : World) (kP : Blk w P #[.slice S.pa S.pts.length S.pc, .slice S.ha S.hs.length S.hc, .int .i64 S.steep, .int .i64 S.th.lo, .int .i64 S.th.hi, .slice S.ma S.ms.length S.mc] 30) (kQ : Blk w Q #[.int .i64 p.x, .int .i64 p.y] 45) (kA : Blk w A #[.int .i64 r] 3) (kB : Blk w B #[.int .i64 n] 3) (hS : IsSkn w S) (hg : Laid w) :
    Calls Tryd.prog 40 #[.pointer (some ⟨P, 0, none⟩), .pointer (some ⟨Q, 0, none⟩), .pointer (some ⟨A, 0, none⟩), .pointer (some ⟨B, 0, none⟩)] w (SkinDone (probeE S p r n) (Probed ⟨p, saidM r n⟩ S) w) := by
  have k0 := Blk.new w 30 #[.slice none 0 0, .slice none 0 0, .int .i64 0, .int .i64 0, .int .i64 0, .slice none 0 0]
  have hb1 : Below w.heap.size w (w.alloc (.cells #[.slice none 0 0, .slice none 0 0, .int .i64 0, .int .i64 0, .int .i64 0, .slice none 0 0] 30)) := (Below.refl _ w).alloc (Nat.le_refl _) _
  have k1 := kP.belowS hb1
  have k2 := kQ.belowS hb1
  have k3 := kA.belowS hb1
  have k4 := kB.belowS hb1
  have HS := Lib.hid hS
  have HG := Lib.hid hg
  clear hS hg kP kQ kA kB
  go_enter Tryd.func40, Tryd.ntmps40
  go_upto_region 1 with fail
  generalize w.alloc (.cells #[.slice none 0 0, .slice none 0 0, .int .i64 0, .int .i64 0, .int .i64 0, .slice none 0 0] 30) = w1 at *
  have HB1 := Lib.hid hb1
  have K0 := Lib.hid k0
  have K1 := Lib.hid k1
  have K2 := Lib.hid k2
  have K3 := Lib.hid k3
  have K4 := Lib.hid k4
  obtain ⟨s0, s1, s2, s3, s4, s5⟩ := skn_cells (S := S) k1
  obtain ⟨p0, p1⟩ := pnt_cells k2
  have l1 := k1.lt
  have l2 := k2.lt
  clear k0 k1 k2 k3 k4 hb1
  go_wp2_with fail
  refine (requirePoint_any S p _ (HS.out.below HB1.out) (HG.out.below HB1.out)).mono ?_
  rintro e w2 ⟨h, hb⟩
  have HB2 := Lib.hid (HB1.out.trans (hb.mono HB1.out.size))
  have K02 := Lib.hid (K0.out.belowS hb)
  have K12 := Lib.hid (K1.out.belowS hb)
  have K22 := Lib.hid (K2.out.belowS hb)
  have K32 := Lib.hid (K3.out.belowS hb)
  have K42 := Lib.hid (K4.out.belowS hb)
  clear s0 s1 s2 s3 s4 s5 p0 p1 l1 l2 hb K0 K1 K2 K3 K4
  rcases h with ⟨hx, rfl⟩ | ⟨hx, rfl⟩
  rotate_left
  · have HV := Lib.hid (show probeE S p r n = pointE S p by unfold probeE; rw [if_pos hx])
    have HX := Lib.hid hx
    clear hx
    go_wp2_with fail
    exact ⟨rfl, .inr ⟨by rw [HV.out]; exact HX.out, by rw [HV.out]⟩, HB2.out⟩
  have HGD := Lib.hid (skinE_ok (show skinE S = 0 by
    unfold pointE at hx
    split at hx
    · rename_i h1
      exact absurd hx h1
    · rename_i h1
      simpa using h1))
  have HPB := Lib.hid (pointE_ok hx).2.2
  have HVV := Lib.hid (show probeE S p r n = if (isFromB r 0 2000 && isFromB n 0 2000) = false then 1 else probedE S ⟨p, saidM r n⟩ by unfold probeE; rw [if_neg (by rw [hx]; decide)])
  clear hx
  have a0 : w2.cell? ⟨A, 0, none⟩ = some (.int .i64 r) := K32.out.cell 0
  have b0 : w2.cell? ⟨B, 0, none⟩ = some (.int .i64 n) := K42.out.cell 0
  have l3 := K32.out.lt
  have l4 := K42.out.lt
  go_wp2_with fail
  refine (isThick_any r _).mono ?_
  rintro e w3 ⟨rfl, rfl⟩
  obtain ⟨t1, ht1⟩ : ∃ t1, isFromB r 0 2000 = t1 := ⟨_, rfl⟩
  have HT1 := Lib.hid ht1
  rw [ht1]
  clear ht1
  cases t1 with
  | false =>
    have HV := Lib.hid (show probeE S p r n = 1 by rw [HVV.out, if_pos (by rw [HT1.out]; rfl)])
    go_wp2_with fail
    refine (require_no 1 _).mono ?_
    rintro e w4 ⟨rfl, rfl⟩
    go_wp2_with fail
    exact ⟨rfl, .inr ⟨by rw [HV.out]; decide, by rw [HV.out]⟩, HB2.out⟩
  | true =>
  go_wp2_with fail
  refine (isThick_any n _).mono ?_
  rintro e w3 ⟨rfl, rfl⟩
  obtain ⟨t2, ht2⟩ : ∃ t2, isFromB n 0 2000 = t2 := ⟨_, rfl⟩
  have HT2 := Lib.hid ht2
  rw [ht2]
  clear ht2
  cases t2 with
  | false =>
    have HV := Lib.hid (show probeE S p r n = 1 by rw [HVV.out, if_pos (by rw [HT1.out, HT2.out]; rfl)])
    go_wp2_with fail
    refine (require_no 1 _).mono ?_
    rintro e w4 ⟨rfl, rfl⟩
    go_wp2_with fail
    exact ⟨rfl, .inr ⟨by rw [HV.out]; decide, by rw [HV.out]⟩, HB2.out⟩
  | true =>
  have HV := Lib.hid (show probeE S p r n = probedE S ⟨p, saidM r n⟩ by rw [HVV.out, if_neg (by rw [HT1.out, HT2.out]; decide)])
  go_wp2_with fail
  refine (require_yes 1 _).mono ?_
  rintro e w3 ⟨rfl, rfl⟩
  have hr : 0 ≤ r ∧ r ≤ 2000 := by simpa [isFromB] using HT1.out
  have hn : 0 ≤ n ∧ n ≤ 2000 := by simpa [isFromB] using HT2.out
  have HRN := Lib.hid (And.intro hr hn)
  clear hr hn a0 b0 l3 l4
  go_upto_region 3 with fail
  have hst : ∀ w', Below w3.heap.size w3 w' → (fun w' : World => Below w3.heap.size w3 w' ∧ (w'.cell? ⟨P, 0, none⟩ = some (.slice S.pa S.pts.length S.pc) ∧ w'.cell? ⟨P, 1, none⟩ = some (.slice S.ha S.hs.length S.hc) ∧ w'.cell? ⟨P, 2, none⟩ = some (.int .i64 S.steep) ∧ w'.cell? ⟨P, 3, none⟩ = some (.int .i64 S.th.lo) ∧ w'.cell? ⟨P, 4, none⟩ = some (.int .i64 S.th.hi) ∧ w'.cell? ⟨P, 5, none⟩ = some (.slice S.ma S.ms.length S.mc) ∧ w'.cell? ⟨Q, 0, none⟩ = some (.int .i64 p.x) ∧ w'.cell? ⟨Q, 1, none⟩ = some (.int .i64 p.y) ∧ w'.cell? ⟨A, 0, none⟩ = some (.int .i64 r) ∧ w'.cell? ⟨B, 0, none⟩ = some (.int .i64 n))) w' := fun w' hb => by
    have x1 := K12.out.belowS hb
    have x2 := K22.out.belowS hb
    have x3 := K32.out.belowS hb
    have x4 := K42.out.belowS hb
    exact ⟨hb, x1.cell 0, x1.cell 1, x1.cell 2, x1.cell 3, x1.cell 4, x1.cell 5, x2.cell 0, x2.cell 1, x3.cell 0, x4.cell 0⟩
  have HST := Lib.hid hst
  clear hst
  have hx := HST.out w3.drew ((Below.refl _ w3).drew)
  refine wp_region_E 7 (fun w' : World => Below w3.heap.size w3 w' ∧ (w'.cell? ⟨P, 0, none⟩ = some (.slice S.pa S.pts.length S.pc) ∧ w'.cell? ⟨P, 1, none⟩ = some (.slice S.ha S.hs.length S.hc) ∧ w'.cell? ⟨P, 2, none⟩ = some (.int .i64 S.steep) ∧ w'.cell? ⟨P, 3, none⟩ = some (.int .i64 S.th.lo) ∧ w'.cell? ⟨P, 4, none⟩ = some (.int .i64 S.th.hi) ∧ w'.cell? ⟨P, 5, none⟩ = some (.slice S.ma S.ms.length S.mc) ∧ w'.cell? ⟨Q, 0, none⟩ = some (.int .i64 p.x) ∧ w'.cell? ⟨Q, 1, none⟩ = some (.int .i64 p.y) ∧ w'.cell? ⟨A, 0, none⟩ = some (.int .i64 r) ∧ w'.cell? ⟨B, 0, none⟩ = some (.int .i64 n))) (by kernel_rfl) ?_
  refine E_take (i := 0) (oi := _) (v := ?vt18) rfl (by kernel_rfl) (by kernel_rfl) (by kernel_rfl) (by kernel_rfl) (fun _ _ _ h => h) hx (Or.inl ⟨by rfl, ?yt18⟩) ?rt18
  case yt18 => (intro w' hSw; (try dsimp only at hSw); go_simp; try with_reducible rfl)
  try simp only [Act.put, List.getElem_toArray, List.getElem_cons_zero, List.getElem_cons_succ, List.setIfInBounds_toArray, List.set_cons_zero, List.set_cons_succ]
  refine E_take (i := 1) (oi := _) (v := ?vt19) rfl (by kernel_rfl) (by kernel_rfl) (by kernel_rfl) (by kernel_rfl) (fun _ _ _ h => h) hx (Or.inl ⟨by rfl, ?yt19⟩) ?rt19
  case yt19 => (intro w' hSw; (try dsimp only at hSw); go_simp; try with_reducible rfl)
  try simp only [Act.put, List.getElem_toArray, List.getElem_cons_zero, List.getElem_cons_succ, List.setIfInBounds_toArray, List.set_cons_zero, List.set_cons_succ]
  refine E_take (i := 2) (oi := _) (v := ?vt20) rfl (by kernel_rfl) (by kernel_rfl) (by kernel_rfl) (by kernel_rfl) (fun _ _ _ h => h) hx (Or.inl ⟨by rfl, ?yt20⟩) ?rt20
  case yt20 => (intro w' hSw; (try dsimp only at hSw); go_simp; try with_reducible rfl)
  try simp only [Act.put, List.getElem_toArray, List.getElem_cons_zero, List.getElem_cons_succ, List.setIfInBounds_toArray, List.set_cons_zero, List.set_cons_succ]
  refine E_take (i := 3) (oi := _) (v := ?vt21) rfl (by kernel_rfl) (by kernel_rfl) (by kernel_rfl) (by kernel_rfl) (fun _ _ _ h => h) hx (Or.inl ⟨by rfl, ?yt21⟩) ?rt21
  case yt21 => (intro w' hSw; (try dsimp only at hSw); go_simp; try with_reducible rfl)
  try simp only [Act.put, List.getElem_toArray, List.getElem_cons_zero, List.getElem_cons_succ, List.setIfInBounds_toArray, List.set_cons_zero, List.set_cons_succ]
  refine E_step (i := 4) (o := _) (by kernel_rfl) rfl (fun K hK => ?_)
  go_simp
  refine (said_any r n HRN.out.1 HRN.out.2 _ (HG.out.below (HB2.out.trans (hx.1.mono HB2.out.size)))).mono ?_
  rintro e w4 ⟨rfl, hb4⟩
  (try dsimp only)
  have hb34 : Below w3.heap.size w3 w4 := hx.1.trans (hb4.mono hx.1.size)
  refine hK.out _ _ (fun _ => HST.out w4 hb34) ?_
  clear hK K
  try simp only [Act.put, List.getElem_toArray, List.getElem_cons_zero, List.getElem_cons_succ, List.setIfInBounds_toArray, List.set_cons_zero, List.set_cons_succ]
  have hx4 := HST.out w4 hb34
  have HB4 := Lib.hid (HB2.out.trans (hb34.mono HB2.out.size))
  refine E_take (i := 5) (oi := _) (v := ?vt22) rfl (by kernel_rfl) (by kernel_rfl) (by kernel_rfl) (by kernel_rfl) (fun _ _ _ h => h) hx4 (Or.inl ⟨by rfl, ?yt22⟩) ?rt22
  case yt22 => (intro w' hSw; (try dsimp only at hSw); go_simp; try with_reducible rfl)
  try simp only [Act.put, List.getElem_toArray, List.getElem_cons_zero, List.getElem_cons_succ, List.setIfInBounds_toArray, List.set_cons_zero, List.set_cons_succ]
  refine E_step (i := 6) (o := _) (by kernel_rfl) rfl (fun K hK => ?_)
  go_simp
  refine (probed_any S ⟨p, saidM r n⟩ _ (HS.out.below HB4.out) (HG.out.below HB4.out) HGD.out ⟨HPB.out, (said_in HRN.out.1 HRN.out.2).2⟩).mono ?_
  rintro e w5 ⟨h, hb5⟩
  have hb35 : Below w3.heap.size w3 w5 := hb34.trans (hb5.mono hb34.size)
  have HB5 := Lib.hid (HB4.out.trans (hb5.mono HB4.out.size))
  rcases h with ⟨hz, R, rfl, hR, hF, hP⟩ | ⟨hz, rfl⟩
  rotate_left
  · (try dsimp only)
    exact ⟨rfl, .inr ⟨by rw [HV.out]; exact hz, by rw [HV.out]⟩, HB5.out⟩
  (try dsimp only)
  have HZ := Lib.hid (show probeE S p r n = 0 by rw [HV.out]; exact hz)
  refine hK.out _ _ (fun _ => HST.out w5 hb35) ?_
  clear hK K
  try simp only [Act.put, List.getElem_toArray, List.getElem_cons_zero, List.getElem_cons_succ, List.setIfInBounds_toArray, List.set_cons_zero, List.set_cons_succ]
  have k05 := K02.out.belowS hb35
  have HLT := Lib.hid (show w.heap.size < w4.heap.size from Nat.lt_of_lt_of_le K02.out.lt hb34.size)
  obtain ⟨r0, r1, r2, r3, r4, r5⟩ := (show w5.cell? ⟨w.heap.size, 0, none⟩ = some (.slice none 0 0) ∧ w5.cell? ⟨w.heap.size, 1, none⟩ = some (.slice none 0 0) ∧ w5.cell? ⟨w.heap.size, 2, none⟩ = some (.int .i64 0) ∧ w5.cell? ⟨w.heap.size, 3, none⟩ = some (.int .i64 0) ∧ w5.cell? ⟨w.heap.size, 4, none⟩ = some (.int .i64 0) ∧ w5.cell? ⟨w.heap.size, 5, none⟩ = some (.slice none 0 0) from ⟨k05.cell 0, k05.cell 1, k05.cell 2, k05.cell 3, k05.cell 4, k05.cell 5⟩)
  have lB := k05.lt
  have z0 := k05.frozen 0
  have z1 := k05.frozen 1
  have z2 := k05.frozen 2
  have z3 := k05.frozen 3
  have z4 := k05.frozen 4
  have z5 := k05.frozen 5
  have KB := Lib.hid k05
  have HR := Lib.hid hR
  have HF := Lib.hid hF
  have HP := Lib.hid hP
  clear hx hx4 hb4 hb34 hb5 hb35 hz hR hF hP k05
  unfold sknC
  refine E_step (i := 7) (o := _) (by kernel_rfl) rfl (fun K hK => ?_)
  go_simp
  refine hK.out _ _ (fun h => absurd rfl h) ?_
  clear hK K
  try simp only [Act.put, List.getElem_toArray, List.getElem_cons_zero, List.getElem_cons_succ, List.setIfInBounds_toArray, List.set_cons_zero, List.set_cons_succ]
  refine E_done (by kernel_rfl) ?_ _
  have kf : Blk ((((((w5.setCell ⟨w.heap.size, 0, none⟩ (.slice R.pa R.pts.length R.pc)).setCell ⟨w.heap.size, 1, none⟩ (.slice R.ha R.hs.length R.hc)).setCell ⟨w.heap.size, 2, none⟩ (.int .i64 R.steep)).setCell ⟨w.heap.size, 3, none⟩ (.int .i64 R.th.lo)).setCell ⟨w.heap.size, 4, none⟩ (.int .i64 R.th.hi)).setCell ⟨w.heap.size, 5, none⟩ (.slice R.ma R.ms.length R.mc)) w.heap.size #[.slice R.pa R.pts.length R.pc, .slice R.ha R.hs.length R.hc, .int .i64 R.steep, .int .i64 R.th.lo, .int .i64 R.th.hi, .slice R.ma R.ms.length R.mc] 30 := ((((((KB.out.set 0 (.slice R.pa R.pts.length R.pc)).set 1 (.slice R.ha R.hs.length R.hc)).set 2 (.int .i64 R.steep)).set 3 (.int .i64 R.th.lo)).set 4 (.int .i64 R.th.hi)).set 5 (.slice R.ma R.ms.length R.mc))
  have ht : Turn (fun k => k = w.heap.size) w5 ((((((w5.setCell ⟨w.heap.size, 0, none⟩ (.slice R.pa R.pts.length R.pc)).setCell ⟨w.heap.size, 1, none⟩ (.slice R.ha R.hs.length R.hc)).setCell ⟨w.heap.size, 2, none⟩ (.int .i64 R.steep)).setCell ⟨w.heap.size, 3, none⟩ (.int .i64 R.th.lo)).setCell ⟨w.heap.size, 4, none⟩ (.int .i64 R.th.hi)).setCell ⟨w.heap.size, 5, none⟩ (.slice R.ma R.ms.length R.mc)) := (((((((Turn.of_below (X := fun k => k = w.heap.size) (Below.refl _ w5)).setCell (B := w.heap.size) rfl 0 (.slice R.pa R.pts.length R.pc)).setCell (B := w.heap.size) rfl 1 (.slice R.ha R.hs.length R.hc)).setCell (B := w.heap.size) rfl 2 (.int .i64 R.steep)).setCell (B := w.heap.size) rfl 3 (.int .i64 R.th.lo)).setCell (B := w.heap.size) rfl 4 (.int .i64 R.th.hi)).setCell (B := w.heap.size) rfl 5 (.slice R.ma R.ms.length R.mc))
  generalize ((((((w5.setCell ⟨w.heap.size, 0, none⟩ (.slice R.pa R.pts.length R.pc)).setCell ⟨w.heap.size, 1, none⟩ (.slice R.ha R.hs.length R.hc)).setCell ⟨w.heap.size, 2, none⟩ (.int .i64 R.steep)).setCell ⟨w.heap.size, 3, none⟩ (.int .i64 R.th.lo)).setCell ⟨w.heap.size, 4, none⟩ (.int .i64 R.th.hi)).setCell ⟨w.heap.size, 5, none⟩ (.slice R.ma R.ms.length R.mc)) = wf at *
  clear r0 r1 r2 r3 r4 r5 z0 z1 z2 z3 z4 z5
  obtain ⟨g0, g1, g2, g3, g4, g5⟩ := skn_cells (S := R) kf
  go_wp2_with fail
  exact bodyPost_ret (v := .agg #[.slice R.pa R.pts.length R.pc, .slice R.ha R.hs.length R.hc, .int .i64 R.steep, .int .i64 R.th.lo, .int .i64 R.th.hi, .slice R.ma R.ms.length R.mc]) (by simp [results, Tryd.results40, go_sem, g0, g1, g2, g3, g4, g5]) rfl ⟨.inl ⟨HZ.out, R, rfl, HR.out.turnF HF.out ht (fun k e => by have := HLT.out; have := (show k = w.heap.size from e); omega), HF.out.mono (by have := HLT.out; omega), HP.out⟩, HB5.out.trans (ht.below HB5.out.size (fun k e => by rw [show k = w.heap.size from e]; exact Nat.le_refl _))⟩

set_option maxRecDepth 100000 in
set_option maxHeartbeats 8000000 in
theorem wearProbe_any (S : Skn) (p : Pnt) (r n : Int) (w : World) (hS : IsSkn w S) (hg : Laid w) :
    Calls Tryd.prog 19 #[.agg #[.slice S.pa S.pts.length S.pc, .slice S.ha S.hs.length S.hc, .int .i64 S.steep, .int .i64 S.th.lo, .int .i64 S.th.hi, .slice S.ma S.ms.length S.mc], .agg #[.int .i64 p.x, .int .i64 p.y], .int .i64 r, .int .i64 n] w (SkinSaid (probeE S p r n) (Probed ⟨p, saidM r n⟩ S) w) := by
  have hmf : ∀ (fn : Fn) (first cap : Array Value) (w : World), (Instr.makeFunc fn first cap).run Tryd.prog w = .ok (.func fn first cap) w := fun _ _ _ _ => rfl
  have k1 := ((((Blk.new w 30 #[.slice S.pa S.pts.length S.pc, .slice S.ha S.hs.length S.hc, .int .i64 S.steep, .int .i64 S.th.lo, .int .i64 S.th.hi, .slice S.ma S.ms.length S.mc]).alloc (.cells #[.int .i64 p.x, .int .i64 p.y] 45)).alloc (.cells #[.int .i64 r] 3)).alloc (.cells #[.int .i64 n] 3)).alloc (.cells #[.slice none 0 0, .slice none 0 0, .int .i64 0, .int .i64 0, .int .i64 0, .slice none 0 0] 30)
  have k2 := (((Blk.new (w.alloc (.cells #[.slice S.pa S.pts.length S.pc, .slice S.ha S.hs.length S.hc, .int .i64 S.steep, .int .i64 S.th.lo, .int .i64 S.th.hi, .slice S.ma S.ms.length S.mc] 30)) 45 #[.int .i64 p.x, .int .i64 p.y]).alloc (.cells #[.int .i64 r] 3)).alloc (.cells #[.int .i64 n] 3)).alloc (.cells #[.slice none 0 0, .slice none 0 0, .int .i64 0, .int .i64 0, .int .i64 0, .slice none 0 0] 30)
  have k3 := ((Blk.new ((w.alloc (.cells #[.slice S.pa S.pts.length S.pc, .slice S.ha S.hs.length S.hc, .int .i64 S.steep, .int .i64 S.th.lo, .int .i64 S.th.hi, .slice S.ma S.ms.length S.mc] 30)).alloc (.cells #[.int .i64 p.x, .int .i64 p.y] 45)) 3 #[.int .i64 r]).alloc (.cells #[.int .i64 n] 3)).alloc (.cells #[.slice none 0 0, .slice none 0 0, .int .i64 0, .int .i64 0, .int .i64 0, .slice none 0 0] 30)
  have k4 := (Blk.new (((w.alloc (.cells #[.slice S.pa S.pts.length S.pc, .slice S.ha S.hs.length S.hc, .int .i64 S.steep, .int .i64 S.th.lo, .int .i64 S.th.hi, .slice S.ma S.ms.length S.mc] 30)).alloc (.cells #[.int .i64 p.x, .int .i64 p.y] 45)).alloc (.cells #[.int .i64 r] 3)) 3 #[.int .i64 n]).alloc (.cells #[.slice none 0 0, .slice none 0 0, .int .i64 0, .int .i64 0, .int .i64 0, .slice none 0 0] 30)
  have k5 := Blk.new ((((w.alloc (.cells #[.slice S.pa S.pts.length S.pc, .slice S.ha S.hs.length S.hc, .int .i64 S.steep, .int .i64 S.th.lo, .int .i64 S.th.hi, .slice S.ma S.ms.length S.mc] 30)).alloc (.cells #[.int .i64 p.x, .int .i64 p.y] 45)).alloc (.cells #[.int .i64 r] 3)).alloc (.cells #[.int .i64 n] 3)) 30 #[.slice none 0 0, .slice none 0 0, .int .i64 0, .int .i64 0, .int .i64 0, .slice none 0 0]
  rw [World.size_alloc] at k2
  rw [World.size_alloc, World.size_alloc] at k3
  rw [World.size_alloc, World.size_alloc, World.size_alloc] at k4
  rw [World.size_alloc, World.size_alloc, World.size_alloc, World.size_alloc] at k5
  have hb1 : Below w.heap.size w (((((w.alloc (.cells #[.slice S.pa S.pts.length S.pc, .slice S.ha S.hs.length S.hc, .int .i64 S.steep, .int .i64 S.th.lo, .int .i64 S.th.hi, .slice S.ma S.ms.length S.mc] 30)).alloc (.cells #[.int .i64 p.x, .int .i64 p.y] 45)).alloc (.cells #[.int .i64 r] 3)).alloc (.cells #[.int .i64 n] 3)).alloc (.cells #[.slice none 0 0, .slice none 0 0, .int .i64 0, .int .i64 0, .int .i64 0, .slice none 0 0] 30)) := (((((Below.refl _ w).alloc (Nat.le_refl _) _).alloc (by simp) _).alloc (by simp; omega) _).alloc (by simp; omega) _).alloc (by simp; omega) _
  have HS := Lib.hid hS
  have HG := Lib.hid hg
  have hen1 : Enters 40 := run_enter Tryd.func40 (by kernel_rfl) rfl
  clear hS hg
  go_enter Tryd.func19, Tryd.ntmps19
  go_upto_region 1 with fail
  generalize (((((w.alloc (.cells #[.slice S.pa S.pts.length S.pc, .slice S.ha S.hs.length S.hc, .int .i64 S.steep, .int .i64 S.th.lo, .int .i64 S.th.hi, .slice S.ma S.ms.length S.mc] 30)).alloc (.cells #[.int .i64 p.x, .int .i64 p.y] 45)).alloc (.cells #[.int .i64 r] 3)).alloc (.cells #[.int .i64 n] 3)).alloc (.cells #[.slice none 0 0, .slice none 0 0, .int .i64 0, .int .i64 0, .int .i64 0, .slice none 0 0] 30)) = w1 at *
  have HAN := Lib.hid (answerSkin_any 40 #[.pointer (some ⟨w.heap.size, 0, none⟩), .pointer (some ⟨w.heap.size + 1, 0, none⟩), .pointer (some ⟨w.heap.size + 1 + 1, 0, none⟩), .pointer (some ⟨w.heap.size + 1 + 1 + 1, 0, none⟩)] (probeE S p r n) (Probed ⟨p, saidM r n⟩ S) w1 hen1 (fun w2 h => probeIn_any _ _ _ _ S p r n w2 (k1.belowS h) (k2.belowS h) (k3.belowS h) (k4.belowS h) (HS.out.below (hb1.trans (h.mono hb1.size))) (HG.out.below (hb1.trans (h.mono hb1.size)))))
  have HB1 := Lib.hid hb1
  have K5 := Lib.hid k5
  clear k1 k2 k3 k4 k5 hb1 hen1
  go_wp2_with fail
  refine HAN.out.mono ?_
  rintro e w2 ⟨⟨R, rfl, hR, hF, hP, hZ⟩, hb⟩
  obtain ⟨E, hE⟩ : ∃ E, probeE S p r n = E := ⟨_, rfl⟩
  rw [hE] at hP hZ ⊢
  have HEE := Lib.hid hE
  have HB2 := Lib.hid (HB1.out.trans (hb.mono HB1.out.size))
  have k52 := K5.out.belowS hb
  have HLT := Lib.hid K5.out.lt
  have HR := Lib.hid hR
  have HF := Lib.hid hF
  have HP := Lib.hid hP
  have HZ := Lib.hid hZ
  clear hb hR hF hP hZ hE HAN
  obtain ⟨b0, b1, b2, b3, b4, b5⟩ := (show w2.cell? ⟨w.heap.size + 1 + 1 + 1 + 1, 0, none⟩ = some (.slice none 0 0) ∧ w2.cell? ⟨w.heap.size + 1 + 1 + 1 + 1, 1, none⟩ = some (.slice none 0 0) ∧ w2.cell? ⟨w.heap.size + 1 + 1 + 1 + 1, 2, none⟩ = some (.int .i64 0) ∧ w2.cell? ⟨w.heap.size + 1 + 1 + 1 + 1, 3, none⟩ = some (.int .i64 0) ∧ w2.cell? ⟨w.heap.size + 1 + 1 + 1 + 1, 4, none⟩ = some (.int .i64 0) ∧ w2.cell? ⟨w.heap.size + 1 + 1 + 1 + 1, 5, none⟩ = some (.slice none 0 0) from ⟨k52.cell 0, k52.cell 1, k52.cell 2, k52.cell 3, k52.cell 4, k52.cell 5⟩)
  have lB := k52.lt
  have z0 := k52.frozen 0
  have z1 := k52.frozen 1
  have z2 := k52.frozen 2
  have z3 := k52.frozen 3
  have z4 := k52.frozen 4
  have z5 := k52.frozen 5
  have KB := Lib.hid k52
  clear k52
  unfold sknC
  go_wp2_with fail
  have kf : Blk ((((((w2.setCell ⟨w.heap.size + 1 + 1 + 1 + 1, 0, none⟩ (.slice R.pa R.pts.length R.pc)).setCell ⟨w.heap.size + 1 + 1 + 1 + 1, 1, none⟩ (.slice R.ha R.hs.length R.hc)).setCell ⟨w.heap.size + 1 + 1 + 1 + 1, 2, none⟩ (.int .i64 R.steep)).setCell ⟨w.heap.size + 1 + 1 + 1 + 1, 3, none⟩ (.int .i64 R.th.lo)).setCell ⟨w.heap.size + 1 + 1 + 1 + 1, 4, none⟩ (.int .i64 R.th.hi)).setCell ⟨w.heap.size + 1 + 1 + 1 + 1, 5, none⟩ (.slice R.ma R.ms.length R.mc)) (w.heap.size + 1 + 1 + 1 + 1) #[.slice R.pa R.pts.length R.pc, .slice R.ha R.hs.length R.hc, .int .i64 R.steep, .int .i64 R.th.lo, .int .i64 R.th.hi, .slice R.ma R.ms.length R.mc] 30 := ((((((KB.out.set 0 (.slice R.pa R.pts.length R.pc)).set 1 (.slice R.ha R.hs.length R.hc)).set 2 (.int .i64 R.steep)).set 3 (.int .i64 R.th.lo)).set 4 (.int .i64 R.th.hi)).set 5 (.slice R.ma R.ms.length R.mc))
  have ht : Turn (fun k => k = w.heap.size + 1 + 1 + 1 + 1) w2 ((((((w2.setCell ⟨w.heap.size + 1 + 1 + 1 + 1, 0, none⟩ (.slice R.pa R.pts.length R.pc)).setCell ⟨w.heap.size + 1 + 1 + 1 + 1, 1, none⟩ (.slice R.ha R.hs.length R.hc)).setCell ⟨w.heap.size + 1 + 1 + 1 + 1, 2, none⟩ (.int .i64 R.steep)).setCell ⟨w.heap.size + 1 + 1 + 1 + 1, 3, none⟩ (.int .i64 R.th.lo)).setCell ⟨w.heap.size + 1 + 1 + 1 + 1, 4, none⟩ (.int .i64 R.th.hi)).setCell ⟨w.heap.size + 1 + 1 + 1 + 1, 5, none⟩ (.slice R.ma R.ms.length R.mc)) := (((((((Turn.of_below (X := fun k => k = w.heap.size + 1 + 1 + 1 + 1) (Below.refl _ w2)).setCell (B := w.heap.size + 1 + 1 + 1 + 1) rfl 0 (.slice R.pa R.pts.length R.pc)).setCell (B := w.heap.size + 1 + 1 + 1 + 1) rfl 1 (.slice R.ha R.hs.length R.hc)).setCell (B := w.heap.size + 1 + 1 + 1 + 1) rfl 2 (.int .i64 R.steep)).setCell (B := w.heap.size + 1 + 1 + 1 + 1) rfl 3 (.int .i64 R.th.lo)).setCell (B := w.heap.size + 1 + 1 + 1 + 1) rfl 4 (.int .i64 R.th.hi)).setCell (B := w.heap.size + 1 + 1 + 1 + 1) rfl 5 (.slice R.ma R.ms.length R.mc))
  generalize ((((((w2.setCell ⟨w.heap.size + 1 + 1 + 1 + 1, 0, none⟩ (.slice R.pa R.pts.length R.pc)).setCell ⟨w.heap.size + 1 + 1 + 1 + 1, 1, none⟩ (.slice R.ha R.hs.length R.hc)).setCell ⟨w.heap.size + 1 + 1 + 1 + 1, 2, none⟩ (.int .i64 R.steep)).setCell ⟨w.heap.size + 1 + 1 + 1 + 1, 3, none⟩ (.int .i64 R.th.lo)).setCell ⟨w.heap.size + 1 + 1 + 1 + 1, 4, none⟩ (.int .i64 R.th.hi)).setCell ⟨w.heap.size + 1 + 1 + 1 + 1, 5, none⟩ (.slice R.ma R.ms.length R.mc)) = wf at *
  clear b0 b1 b2 b3 b4 b5 z0 z1 z2 z3 z4 z5
  obtain ⟨g0, g1, g2, g3, g4, g5⟩ := skn_cells (S := R) kf
  exact bodyPost_ret (v := .tuple #[.agg #[.slice R.pa R.pts.length R.pc, .slice R.ha R.hs.length R.hc, .int .i64 R.steep, .int .i64 R.th.lo, .int .i64 R.th.hi, .slice R.ma R.ms.length R.mc], .int .i64 E]) (by simp [results, Tryd.results19, go_sem, g0, g1, g2, g3, g4, g5]) rfl ⟨⟨R, by rw [HEE.out], HR.out.turnF HF.out ht (fun k e => by have := HLT.out; omega), HF.out.mono (by have := HLT.out; omega), by rw [HEE.out]; exact HP.out, by rw [HEE.out]; exact HZ.out⟩, HB2.out.trans (ht.below HB2.out.size (fun k e => by rw [show k = w.heap.size + 1 + 1 + 1 + 1 from e]; omega))⟩
end Go.Proofs.YtoigihmgjacbjaaDoor
