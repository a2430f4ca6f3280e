/- requireSkin, requirePoint and Bounds of any skin and point: what is told, or the first error. No condition but the package's variable. -/
import Derived.Test.YtoigihmgjacbjaaDoorWV
set_option linter.unusedSimpArgs false
namespace Go.Proofs.YtoigihmgjacbjaaDoor
open Go.RowKit

def markE (l : List Pnt) (hs : List Hol) : List Mrk → Int
  | [] => 0
  | m :: t => if inAreaM l hs m.at_ = false then 7 else if isSpanB m.th 0 2000 = false then 1 else markE l hs t
theorem markE_drop {l : List Pnt} {hs : List Hol} {ms : List Mrk} {j : Nat} {m : Mrk} (hj : ms[j]? = some m) : markE l hs (ms.drop j) = if inAreaM l hs m.at_ = false then 7 else if isSpanB m.th 0 2000 = false then 1 else markE l hs (ms.drop (j + 1)) := by
  obtain ⟨hlt, rfl⟩ := List.getElem?_eq_some_iff.1 hj
  rw [List.drop_eq_getElem_cons hlt]
  rfl
/-- The first error of a skin. -/
def skinE (S : Skn) : Int :=
  if ¬ areaE S.pts S.hs = 0 then areaE S.pts S.hs else if (isFromB S.steep 0 1000 && isSpanB S.th 0 2000) = false then 1 else if 40 < S.ms.length then 3 else
    if ¬ markE S.pts S.hs S.ms = 0 then markE S.pts S.hs S.ms else if ordB S.ms = false then 8 else thickE S
def pointE (S : Skn) (p : Pnt) : Int := if ¬ skinE S = 0 then skinE S else if inAreaM S.pts S.hs p = false then 7 else 0
theorem areaE_ok {l : List Pnt} {hs : List Hol} (h : areaE l hs = 0) : (3 ≤ l.length ∧ l.length ≤ 12) ∧ okPts4 l ∧ cornE l = 0 := by
  unfold areaE at h
  split at h
  · omega
  rename_i h1
  split at h
  · rename_i h2
    exact absurd h h2
  rename_i h2
  have h2' : cornE l = 0 := by simpa using h2
  have h1' : isFromB (l.length : Int) 3 12 = true := by simpa using h1
  refine ⟨by simp [isFromB] at h1'; omega, cornE_ok h2', h2'⟩
theorem inArea_point {l : List Pnt} {hs : List Hol} {p : Pnt} (h : inAreaM l hs p = true) : pointB p = true := by
  unfold inAreaM at h
  simp only [Bool.and_eq_true, Bool.not_eq_true', decide_eq_false_iff_not] at h
  have h1 := h.1
  unfold insM at h1
  split at h1
  · assumption
  · omega
theorem markE_ok {l : List Pnt} {hs : List Hol} : ∀ {ms : List Mrk}, markE l hs ms = 0 → ∀ m ∈ ms, mrkOk m ∧ inAreaM l hs m.at_ = true
  | [], _, m, hm => by cases hm
  | x :: t, h, m, hm => by
    unfold markE at h
    split at h
    · omega
    rename_i h1
    split at h
    · omega
    rename_i h2
    have h1' : inAreaM l hs x.at_ = true := by simpa using h1
    rcases List.mem_cons.1 hm with rfl | hm
    · exact ⟨⟨inArea_point h1', by simpa using h2⟩, h1'⟩
    · exact markE_ok h m hm
structure SkinGood (S : Skn) : Prop where
  area : areaE S.pts S.hs = 0
  steep : 0 ≤ S.steep ∧ S.steep ≤ 1000
  th : isSpanB S.th 0 2000 = true
  few : S.ms.length ≤ 40
  marks : ∀ m ∈ S.ms, mrkOk m ∧ inAreaM S.pts S.hs m.at_ = true
  ord : ordB S.ms = true
  thick : thickE S = 0
theorem skinE_ok {S : Skn} (h : skinE S = 0) : SkinGood S := by
  unfold skinE at h
  split at h
  · rename_i h1
    exact absurd h h1
  rename_i h1
  split at h
  · omega
  rename_i h2
  split at h
  · omega
  rename_i h3
  split at h
  · rename_i h4
    exact absurd h h4
  rename_i h4
  split at h
  · omega
  rename_i h5
  have h2' : (isFromB S.steep 0 1000 && isSpanB S.th 0 2000) = true := by simpa using h2
  rw [Bool.and_eq_true] at h2'
  exact ⟨by simpa using h1, by simpa [isFromB] using h2'.1, h2'.2, by omega, markE_ok (by simpa using h4), by simpa using h5, h⟩
theorem skinE_area {S : Skn} (h : skinE S = 0) : (3 ≤ S.pts.length ∧ S.pts.length ≤ 12) ∧ okPts4 S.pts := ⟨(areaE_ok (skinE_ok h).area).1, (areaE_ok (skinE_ok h).area).2.1⟩
theorem pointE_ok {S : Skn} {p : Pnt} (h : pointE S p = 0) : (0 ≤ S.steep ∧ S.steep ≤ 1000) ∧ (∀ m ∈ S.ms, mrkOk m) ∧ pointB p = true := by
  unfold pointE at h
  split at h
  · rename_i h1
    exact absurd h h1
  rename_i h1
  split at h
  · omega
  rename_i h2
  have g := skinE_ok (S := S) (by simpa using h1)
  exact ⟨g.steep, fun m hm => (g.marks m hm).1, inArea_point (by simpa using h2)⟩

set_option maxRecDepth 100000 in
set_option maxHeartbeats 8000000 in
theorem requireSkin_any (S : Skn) (w : World) (hS : IsSkn w S) (hg : Laid w) :
    Calls Tryd.prog 35 #[.agg #[.slice S.pa S.pts.length S.pc, .slice S.ha S.hs.length S.hc, .int .i64 S.steep, .int .i64 S.th.lo, .int .i64 S.th.hi, .slice S.ma S.ms.length S.mc]] w (ReqSaid (skinE S) w) := by
  have k1 := Blk.new w 30 #[.slice S.pa S.pts.length S.pc, .slice S.ha S.hs.length S.hc, .int .i64 S.steep, .int .i64 S.th.lo, .int .i64 S.th.hi, .slice S.ma S.ms.length S.mc]
  have hb1 : Below w.heap.size w (w.alloc (.cells #[.slice S.pa S.pts.length S.pc, .slice S.ha S.hs.length S.hc, .int .i64 S.steep, .int .i64 S.th.lo, .int .i64 S.th.hi, .slice S.ma S.ms.length S.mc] 30)) := (Below.refl _ w).alloc (Nat.le_refl _) _
  have HS := Lib.hid hS
  have HG := Lib.hid hg
  have hlen := hS.ms.len
  clear hS hg
  go_enter Tryd.func35, Tryd.ntmps35
  go_upto_region 1 with fail
  generalize (w.alloc (.cells #[.slice S.pa S.pts.length S.pc, .slice S.ha S.hs.length S.hc, .int .i64 S.steep, .int .i64 S.th.lo, .int .i64 S.th.hi, .slice S.ma S.ms.length S.mc] 30)) = w1 at *
  obtain ⟨s0, s1, s2, s3, s4, s5⟩ := skn_cells (S := S) k1
  have l1 := k1.lt
  have HB1 := Lib.hid hb1
  have K1 := Lib.hid k1
  clear k1 hb1
  go_wp2_with fail
  refine (requireArea_any S.pa S.pc S.ha S.hc S.pts S.hs _ (HS.out.pts.below HB1.out) (HS.out.hs.below HB1.out)).mono ?_
  rintro e w2 ⟨h, hb⟩
  have HB2 := Lib.hid (HB1.out.trans (hb.mono HB1.out.size))
  have K2 := Lib.hid (K1.out.belowS hb)
  clear s0 s1 s2 s3 s4 s5 l1 hb K1
  rcases h with ⟨hx, rfl⟩ | ⟨hx, rfl⟩
  rotate_left
  · have HV := Lib.hid (show skinE S = areaE S.pts S.hs by unfold skinE; rw [if_pos hx])
    have HX := Lib.hid hx
    clear hx
    go_wp2_with fail
    exact ⟨rfl, .inr ⟨by rw [HV.out]; exact HX.out, by rw [HV.out]⟩, HB2.out⟩
  have HA := Lib.hid hx
  clear hx
  obtain ⟨s0, s1, s2, s3, s4, s5⟩ := skn_cells (S := S) K2.out
  have l1 := K2.out.lt
  go_wp2_with fail
  refine (isFrom_any _ _ _ _).mono ?_
  rintro e w3 ⟨rfl, rfl⟩
  obtain ⟨t1, ht1⟩ : ∃ t1, isFromB S.steep 0 1000 = t1 := ⟨_, rfl⟩
  have HT1 := Lib.hid ht1
  rw [ht1]
  clear ht1
  cases t1 with
  | false =>
    have HV := Lib.hid (show skinE S = 1 by unfold skinE; rw [if_neg (by rw [HA.out]; decide), if_pos (by rw [HT1.out]; rfl)])
    go_wp2_with fail
    refine (require_no 1 _).mono ?_
    rintro e w4 ⟨rfl, rfl⟩
    go_wp2_with fail
    exact ⟨rfl, .inr ⟨by rw [HV.out]; decide, by rw [HV.out]⟩, HB2.out⟩
  | true =>
  go_wp2_with fail
  refine (areThick_any S.th _).mono ?_
  rintro e w3 ⟨rfl, hb⟩
  have HB3 := Lib.hid (HB2.out.trans (hb.mono HB2.out.size))
  have K3 := Lib.hid (K2.out.belowS hb)
  clear s0 s1 s2 s3 s4 s5 l1 hb K2
  obtain ⟨t2, ht2⟩ : ∃ t2, isSpanB S.th 0 2000 = t2 := ⟨_, rfl⟩
  have HT2 := Lib.hid ht2
  rw [ht2]
  clear ht2
  cases t2 with
  | false =>
    have HV := Lib.hid (show skinE S = 1 by unfold skinE; rw [if_neg (by rw [HA.out]; decide), if_pos (by rw [HT1.out, HT2.out]; rfl)])
    go_wp2_with fail
    refine (require_no 1 _).mono ?_
    rintro e w4 ⟨rfl, rfl⟩
    go_wp2_with fail
    exact ⟨rfl, .inr ⟨by rw [HV.out]; decide, by rw [HV.out]⟩, HB3.out⟩
  | true =>
  have HBB := Lib.hid (show (isFromB S.steep 0 1000 && isSpanB S.th 0 2000) = true by rw [HT1.out, HT2.out]; rfl)
  go_wp2_with fail
  refine (require_yes 1 _).mono ?_
  rintro e w4 ⟨rfl, rfl⟩
  obtain ⟨w3, rfl⟩ : ∃ w3 : World, w3 = w4 := ⟨_, rfl⟩
  obtain ⟨s0, s1, s2, s3, s4, s5⟩ := skn_cells (S := S) K3.out
  have l1 := K3.out.lt
  by_cases h40 : 40 < S.ms.length
  · have HV := Lib.hid (show skinE S = 3 by unfold skinE; rw [if_neg (by rw [HA.out]; decide), if_neg (by rw [HBB.out]; decide), if_pos h40])
    go_wp2_with fail
    rw [show decide ((S.ms.length : Int) ≤ 40) = false from decide_eq_false (by omega)]
    refine (require_no 3 _).mono ?_
    rintro e w4 ⟨rfl, rfl⟩
    go_wp2_with fail
    exact ⟨rfl, .inr ⟨by rw [HV.out]; decide, by rw [HV.out]⟩, HB3.out⟩
  have hm40 : (S.ms.length : Int) ≤ 40 := by omega
  have H40 := Lib.hid (Nat.not_lt.1 h40)
  have HVV := Lib.hid (show skinE S = if ¬ markE S.pts S.hs S.ms = 0 then markE S.pts S.hs S.ms else if ordB S.ms = false then 8 else thickE S by unfold skinE; rw [if_neg (by rw [HA.out]; decide), if_neg (by rw [HBB.out]; decide), if_neg h40])
  clear h40
  go_wp2_with fail
  refine (require_yes 3 _).mono ?_
  rintro e w4 ⟨rfl, rfl⟩
  obtain ⟨w3, rfl⟩ : ∃ w3 : World, w3 = w4 := ⟨_, rfl⟩
  go_wp2_with fail
  go_loopw [3, 24] (fun _ s24 wr => ∃ j : Nat, j ≤ S.ms.length ∧ s24 = .int .i64 j ∧ markE S.pts S.hs S.ms = markE S.pts S.hs (S.ms.drop j) ∧ Below w3.heap.size w3 wr) (fun _ i _ => S.ms.length - (intOf i).toNat)
  case atStart => exact ⟨0, Nat.zero_le _, rfl, rfl, Below.refl _ _⟩
  case round =>
  clear s0 s1 s2 s3 s4 s5 l1 hm40
  obtain ⟨j, hj, rfl, hme, hb4⟩ := hrel
  obtain ⟨w4, rfl⟩ : ∃ w4 : World, w4 = wr := ⟨_, rfl⟩
  have K4 := Lib.hid (K3.out.belowS hb4)
  have HB4 := Lib.hid (HB3.out.trans (hb4.mono HB3.out.size))
  by_cases hlj : j < S.ms.length
  · have hlj' : (j : Int) < (S.ms.length : Int) := by omega
    have hjs : IntKind.i64.wrap ((j : Int) + 1) = ((j + 1 : Nat) : Int) := by have := H40.out; rw [IntKind.wrap_i64]; omega
    have hq : S.ms[j]? = some S.ms[j] := List.getElem?_eq_getElem hlj
    obtain ⟨b, off, hea, hbl, hcap, hcx, y0, y1, y2, y3⟩ := (HS.out.ms.below HB4.out).at hq
    have HME := Lib.hid (hme.trans (markE_drop hq))
    generalize S.ms[j] = m at *
    simp only [mrkC, List.getElem?_toArray, List.getElem?_cons_zero, List.getElem?_cons_succ] at y0 y1 y2 y3
    have HLJ := Lib.hid hlj
    have kM := Blk.new w4 61 #[.int .i64 m.at_.x, .int .i64 m.at_.y, .int .i64 m.th.lo, .int .i64 m.th.hi]
    have hb5 : Below w4.heap.size w4 (w4.alloc (.cells #[.int .i64 m.at_.x, .int .i64 m.at_.y, .int .i64 m.th.lo, .int .i64 m.th.hi] 61)) := (Below.refl _ w4).alloc (Nat.le_refl _) _
    have K5 := Lib.hid (K4.out.belowS hb5)
    have HB5 := Lib.hid (HB4.out.trans (hb5.mono HB4.out.size))
    have HB35 := Lib.hid (hb4.trans (hb5.mono hb4.size))
    have s5 : w4.cell? ⟨w.heap.size, 5, none⟩ = some (.slice S.ma S.ms.length S.mc) := K4.out.cell 5
    rw [hea] at s5
    clear hq hj hlj hb4 hb5 hme
    go_upto_region 7 with fail
    clear y0 y1 y2 y3 hbl hcap hcx s5
    generalize w4.alloc (.cells #[.int .i64 m.at_.x, .int .i64 m.at_.y, .int .i64 m.th.lo, .int .i64 m.th.hi] 61) = w5 at *
    obtain ⟨s0, s1⟩ := (show w5.cell? ⟨w.heap.size, 0, none⟩ = some (.slice S.pa S.pts.length S.pc) ∧ w5.cell? ⟨w.heap.size, 1, none⟩ = some (.slice S.ha S.hs.length S.hc) from ⟨K5.out.cell 0, K5.out.cell 1⟩)
    have l1 := K5.out.lt
    have lM := kM.lt
    obtain ⟨y0, y1⟩ := (show w5.cell? ⟨w4.heap.size, 0, none⟩ = some (.int .i64 m.at_.x) ∧ w5.cell? ⟨w4.heap.size, 1, none⟩ = some (.int .i64 m.at_.y) from ⟨kM.cell 0, kM.cell 1⟩)
    have KM5 := Lib.hid kM
    clear kM
    go_wp2_with fail
    refine (isPoint_any S.pa S.pts.length S.pc S.ha S.hc S.pts S.hs m.at_ _ (HS.out.pts.below HB5.out) (by have := (areaE_ok HA.out).1; omega) (areaE_ok HA.out).2.1 (HS.out.hs.below HB5.out)).mono ?_
    rintro e w6 ⟨rfl, hb⟩
    have HB36 := Lib.hid (HB35.out.trans (hb.mono HB35.out.size))
    have kM6 := KM5.out.belowS hb
    obtain ⟨y2, y3⟩ := (show w6.cell? ⟨w4.heap.size, 2, none⟩ = some (.int .i64 m.th.lo) ∧ w6.cell? ⟨w4.heap.size, 3, none⟩ = some (.int .i64 m.th.hi) from ⟨kM6.cell 2, kM6.cell 3⟩)
    have lM6 := kM6.lt
    clear s0 s1 l1 lM y0 y1 hb kM6
    obtain ⟨b1, hb1⟩ : ∃ b1, inAreaM S.pts S.hs m.at_ = b1 := ⟨_, rfl⟩
    rw [hb1] at HME ⊢
    clear hb1
    cases b1 with
    | false =>
      have HV := Lib.hid (show skinE S = 7 by rw [HVV.out, HME.out]; rfl)
      go_wp2_with fail
      refine (require_no 7 _).mono ?_
      rintro e w7 ⟨rfl, rfl⟩
      go_wp2_with fail
      exact ⟨rfl, .inr ⟨by rw [HV.out]; decide, by rw [HV.out]⟩, HB3.out.trans (HB36.out.mono HB3.out.size)⟩
    | true =>
    go_wp2_with fail
    refine (require_yes 7 _).mono ?_
    rintro e w7 ⟨rfl, rfl⟩
    go_wp2_with fail
    refine (areThick_any m.th _).mono ?_
    rintro e w8 ⟨rfl, hb⟩
    have HB38 := Lib.hid (HB36.out.trans (hb.mono HB36.out.size))
    clear y2 y3 lM6 hb
    obtain ⟨b2, hb2⟩ : ∃ b2, isSpanB m.th 0 2000 = b2 := ⟨_, rfl⟩
    rw [hb2] at HME ⊢
    clear hb2
    cases b2 with
    | false =>
      have HV := Lib.hid (show skinE S = 1 by rw [HVV.out, HME.out]; rfl)
      go_wp2_with fail
      refine (require_no 1 _).mono ?_
      rintro e w7 ⟨rfl, rfl⟩
      go_wp2_with fail
      exact ⟨rfl, .inr ⟨by rw [HV.out]; decide, by rw [HV.out]⟩, HB3.out.trans (HB38.out.mono HB3.out.size)⟩
    | true =>
    go_wp2_with fail
    refine (require_yes 1 _).mono ?_
    rintro e w9 ⟨rfl, rfl⟩
    go_wp2_with fail
    rw [hea]
    refine ⟨⟨_, _, _, _, _, _, _, _, _, _, _, _, _, _, _, _, ⟨j + 1, by have := HLJ.out; omega, rfl, HME.out, HB38.out⟩, rfl⟩, by have := HLJ.out; simp [intOf]; omega⟩
  · obtain rfl : j = S.ms.length := by omega
    have hlj' : ¬ (S.ms.length : Int) < (S.ms.length : Int) := by omega
    rw [List.drop_of_length_le (Nat.le_refl _)] at hme
    have HM0 := Lib.hid (show markE S.pts S.hs S.ms = 0 from hme)
    have HVW := Lib.hid (show skinE S = if ordB S.ms = false then 8 else thickE S by rw [HVV.out, if_neg (by rw [HM0.out]; decide)])
    clear hlj hj hb4 hme
    obtain ⟨s0, s1, s2, s3, s4, s5⟩ := skn_cells (S := S) K4.out
    have l1 := K4.out.lt
    go_wp2_with fail
    refine (areInOrder_any S.ma S.mc S.ms _ (HS.out.ms.below HB4.out)).mono ?_
    rintro e w5 ⟨rfl, hb⟩
    have HB5 := Lib.hid (HB4.out.trans (hb.mono HB4.out.size))
    have K5 := Lib.hid (K4.out.belowS hb)
    clear s0 s1 s2 s3 s4 s5 l1 hb
    obtain ⟨b3, hb3⟩ : ∃ b3, ordB S.ms = b3 := ⟨_, rfl⟩
    rw [hb3] at HVW ⊢
    clear hb3
    cases b3 with
    | false =>
      have HV := Lib.hid (show skinE S = 8 by rw [HVW.out]; rfl)
      go_wp2_with fail
      refine (require_no 8 _).mono ?_
      rintro e w6 ⟨rfl, rfl⟩
      go_wp2_with fail
      exact ⟨rfl, .inr ⟨by rw [HV.out]; decide, by rw [HV.out]⟩, HB5.out⟩
    | true =>
    have HV := Lib.hid (show skinE S = thickE S by rw [HVW.out]; rfl)
    go_wp2_with fail
    refine (require_yes 8 _).mono ?_
    rintro e w6 ⟨rfl, rfl⟩
    obtain ⟨w5, rfl⟩ : ∃ w5 : World, w5 = w6 := ⟨_, rfl⟩
    obtain ⟨s0, s1, s2, s3, s4, s5⟩ := skn_cells (S := S) K5.out
    have l1 := K5.out.lt
    go_wp2_with fail
    refine (requireThick_any S _ (HS.out.below HB5.out) (HG.out.below HB5.out) (by have := HBB.out; rw [Bool.and_eq_true] at this; simpa [isFromB] using this.1) (fun m hm => (markE_ok HM0.out m hm).1)).mono ?_
    rintro e w6 ⟨h, hb⟩
    have HB6 := Lib.hid (HB5.out.trans (hb.mono HB5.out.size))
    clear s0 s1 s2 s3 s4 s5 l1 hb
    rcases h with ⟨hx, rfl⟩ | ⟨hx, rfl⟩
    · have HX := Lib.hid hx
      clear hx
      go_wp2_with fail
      go_end0
      exact ⟨.inl ⟨by rw [HV.out]; exact HX.out, rfl⟩, HB6.out⟩
    · have HX := Lib.hid hx
      clear hx
      go_wp2_with fail
      exact ⟨rfl, .inr ⟨by rw [HV.out]; exact HX.out, by rw [HV.out]⟩, HB6.out⟩

set_option maxRecDepth 100000 in
set_option maxHeartbeats 8000000 in
theorem requirePoint_any (S : Skn) (p : Pnt) (w : World) (hS : IsSkn w S) (hg : Laid w) :
    Calls Tryd.prog 41 #[.agg #[.slice S.pa S.pts.length S.pc, .slice S.ha S.hs.length S.hc, .int .i64 S.steep, .int .i64 S.th.lo, .int .i64 S.th.hi, .slice S.ma S.ms.length S.mc], .agg #[.int .i64 p.x, .int .i64 p.y]] w (ReqSaid (pointE S p) w) := by
  have k1 := (Blk.new w 30 #[.slice S.pa S.pts.length S.pc, .slice S.ha S.hs.length S.hc, .int .i64 S.steep, .int .i64 S.th.lo, .int .i64 S.th.hi, .slice S.ma S.ms.length S.mc]).alloc (.cells #[.int .i64 p.x, .int .i64 p.y] 45)
  have k2 := Blk.new (w.alloc (.cells #[.slice S.pa S.pts.length S.pc, .slice S.ha S.hs.length S.hc, .int .i64 S.steep, .int .i64 S.th.lo, .int .i64 S.th.hi, .slice S.ma S.ms.length S.mc] 30)) 45 #[.int .i64 p.x, .int .i64 p.y]
  rw [World.size_alloc] at k2
  have hb1 : Below w.heap.size w ((w.alloc (.cells #[.slice S.pa S.pts.length S.pc, .slice S.ha S.hs.length S.hc, .int .i64 S.steep, .int .i64 S.th.lo, .int .i64 S.th.hi, .slice S.ma S.ms.length S.mc] 30)).alloc (.cells #[.int .i64 p.x, .int .i64 p.y] 45)) := ((Below.refl _ w).alloc (Nat.le_refl _) _).alloc (by simp) _
  have HS := Lib.hid hS
  have HG := Lib.hid hg
  clear hS hg
  go_enter Tryd.func41, Tryd.ntmps41
  go_upto_region 1 with fail
  generalize ((w.alloc (.cells #[.slice S.pa S.pts.length S.pc, .slice S.ha S.hs.length S.hc, .int .i64 S.steep, .int .i64 S.th.lo, .int .i64 S.th.hi, .slice S.ma S.ms.length S.mc] 30)).alloc (.cells #[.int .i64 p.x, .int .i64 p.y] 45)) = w1 at *
  obtain ⟨s0, s1, s2, s3, s4, s5⟩ := skn_cells (S := S) k1
  have l1 := k1.lt
  have HB1 := Lib.hid hb1
  have K1 := Lib.hid k1
  have K2 := Lib.hid k2
  clear k1 k2 hb1
  go_wp2_with fail
  refine (requireSkin_any S _ (HS.out.below HB1.out) (HG.out.below HB1.out)).mono ?_
  rintro e w2 ⟨h, hb⟩
  rcases h with ⟨hx, rfl⟩ | ⟨hx, rfl⟩
  rotate_left
  · have HV := Lib.hid (show pointE S p = skinE S by unfold pointE; rw [if_pos hx])
    have HX := Lib.hid hx
    have HB2 := Lib.hid (HB1.out.trans (hb.mono HB1.out.size))
    clear s0 s1 s2 s3 s4 s5 l1 hb hx
    go_wp2_with fail
    exact ⟨rfl, .inr ⟨by rw [HV.out]; exact HX.out, by rw [HV.out]⟩, HB2.out⟩
  have HX := Lib.hid hx
  have HAR := Lib.hid (skinE_area hx)
  clear hx
  have HB2 := Lib.hid (HB1.out.trans (hb.mono HB1.out.size))
  have k12 := K1.out.belowS hb
  have k22 := K2.out.belowS hb
  clear s0 s1 s2 s3 s4 s5 l1 hb
  obtain ⟨s0, s1, s2, s3, s4, s5⟩ := skn_cells (S := S) k12
  obtain ⟨p0, p1⟩ := pnt_cells k22
  have l1 := k12.lt
  have l2 := k22.lt
  clear k12 k22
  go_wp2_with fail
  refine (isPoint_any S.pa S.pts.length S.pc S.ha S.hc S.pts S.hs p _ (HS.out.pts.below HB2.out) (by have := HAR.out.1; omega) HAR.out.2 (HS.out.hs.below HB2.out)).mono ?_
  rintro e w3 ⟨rfl, hb⟩
  have HB3 := Lib.hid (HB2.out.trans (hb.mono HB2.out.size))
  clear s0 s1 s2 s3 s4 s5 l1 l2 p0 p1 hb
  cases hi : inAreaM S.pts S.hs p with
  | true =>
    have HV := Lib.hid (show pointE S p = 0 by unfold pointE; rw [if_neg (by rw [HX.out]; decide), if_neg (by rw [hi]; decide)])
    clear hi
    go_wp2_with fail
    refine (require_yes 7 _).mono ?_
    rintro e w4 ⟨rfl, rfl⟩
    go_wp2_with fail
    go_end0
    exact ⟨.inl ⟨HV.out, rfl⟩, HB3.out⟩
  | false =>
    have HV := Lib.hid (show pointE S p = 7 by unfold pointE; rw [if_neg (by rw [HX.out]; decide), if_pos hi])
    clear hi
    go_wp2_with fail
    refine (require_no 7 _).mono ?_
    rintro e w4 ⟨rfl, rfl⟩
    go_wp2_with fail
    exact ⟨rfl, .inr ⟨by rw [HV.out]; decide, by rw [HV.out]⟩, HB3.out⟩

set_option maxRecDepth 100000 in
set_option maxHeartbeats 4000000 in
theorem boundsIn_any (P Q : Nat) (S : Skn) (p : Pnt) (w : World) (kP : Blk w P (sknC S) 30) (kQ : Blk w Q #[.int .i64 p.x, .int .i64 p.y] 45) (hS : IsSkn w S) (hg : Laid w) :
    Calls Tryd.prog 47 #[.pointer (some ⟨P, 0, none⟩), .pointer (some ⟨Q, 0, none⟩)] w (DoneSaid (pointE S p) (boundM S p) w) := by
  have k0 := Blk.new w 27 #[.int .i64 0, .int .i64 0]
  have hb1 : Below w.heap.size w (w.alloc (.cells #[.int .i64 0, .int .i64 0] 27)) := (Below.refl _ w).alloc (Nat.le_refl _) _
  have k1 := kP.belowS hb1
  have k2 := kQ.belowS hb1
  have HS := Lib.hid hS
  have HG := Lib.hid hg
  clear hS hg kP kQ
  go_enter Tryd.func47, Tryd.ntmps47
  go_upto_region 1 with fail
  generalize w.alloc (.cells #[.int .i64 0, .int .i64 0] 27) = w1 at *
  have HB1 := Lib.hid hb1
  have K0 := Lib.hid k0
  have K1 := Lib.hid k1
  have K2 := Lib.hid k2
  obtain ⟨s0, s1, s2, s3, s4, s5⟩ := skn_cells (S := S) k1
  obtain ⟨p0, p1⟩ := pnt_cells k2
  have l1 := k1.lt
  have l2 := k2.lt
  clear k0 k1 k2 hb1
  go_wp2_with fail
  refine (requirePoint_any S p _ (HS.out.below HB1.out) (HG.out.below HB1.out)).mono ?_
  rintro e w2 ⟨h, hb⟩
  rcases h with ⟨hx, rfl⟩ | ⟨hx, rfl⟩
  rotate_left
  · have HX := Lib.hid hx
    have HB2 := Lib.hid (HB1.out.trans (hb.mono HB1.out.size))
    clear s0 s1 s2 s3 s4 s5 p0 p1 l1 l2 hb hx
    go_wp2_with fail
    exact ⟨rfl, .inr ⟨HX.out, rfl⟩, HB2.out⟩
  have HX := Lib.hid hx
  have HGD := Lib.hid (pointE_ok hx)
  clear hx
  have HB2 := Lib.hid (HB1.out.trans (hb.mono HB1.out.size))
  have K02 := Lib.hid (K0.out.belowS hb)
  have k12 := K1.out.belowS hb
  have k22 := K2.out.belowS hb
  clear s0 s1 s2 s3 s4 s5 p0 p1 l1 l2 hb
  obtain ⟨s0, s1, s2, s3, s4, s5⟩ := skn_cells (S := S) k12
  obtain ⟨p0, p1⟩ := pnt_cells k22
  have l1 := k12.lt
  have l2 := k22.lt
  clear k12 k22
  go_wp2_with fail
  refine (bounds_any S p _ (HS.out.below HB2.out) (HG.out.below HB2.out) HGD.out.1 HGD.out.2.1 HGD.out.2.2).mono ?_
  rintro e w3 ⟨rfl, hb⟩
  have HB3 := Lib.hid (HB2.out.trans (hb.mono HB2.out.size))
  have k03 := K02.out.belowS hb
  obtain ⟨U, hU⟩ : ∃ U, boundM S p = U := ⟨_, rfl⟩
  rw [hU]
  have HU := Lib.hid hU
  clear s0 s1 s2 s3 s4 s5 p0 p1 l1 l2 hb hU
  obtain ⟨b0, b1⟩ := spn_cells (s := ⟨0, 0⟩) k03
  have lB := k03.lt
  have z0 := k03.frozen 0
  have z1 := k03.frozen 1
  have KB := Lib.hid k03
  clear k03
  go_wp2_with fail
  have kf : Blk ((w3.setCell ⟨w.heap.size, 0, none⟩ (.int .i64 U.lo)).setCell ⟨w.heap.size, 1, none⟩ (.int .i64 U.hi)) w.heap.size #[.int .i64 U.lo, .int .i64 U.hi] 27 := ((KB.out.set 0 (.int .i64 U.lo)).set 1 (.int .i64 U.hi))
  have ht : Turn (fun k => k = w.heap.size) w3 ((w3.setCell ⟨w.heap.size, 0, none⟩ (.int .i64 U.lo)).setCell ⟨w.heap.size, 1, none⟩ (.int .i64 U.hi)) := (((Turn.of_below (X := fun k => k = w.heap.size) (Below.refl _ w3)).setCell (B := w.heap.size) rfl 0 (.int .i64 U.lo)).setCell (B := w.heap.size) rfl 1 (.int .i64 U.hi))
  generalize ((w3.setCell ⟨w.heap.size, 0, none⟩ (.int .i64 U.lo)).setCell ⟨w.heap.size, 1, none⟩ (.int .i64 U.hi)) = wf at *
  clear b0 b1 z0 z1
  obtain ⟨g0, g1⟩ := spn_cells kf
  exact bodyPost_ret (v := .agg #[.int .i64 U.lo, .int .i64 U.hi]) (by simp [results, Tryd.results47, go_sem, g0, g1]) rfl ⟨.inl ⟨HX.out, by rw [HU.out]⟩, HB3.out.trans (ht.below HB3.out.size (fun k e => by rw [show k = w.heap.size from e]; exact Nat.le_refl _))⟩

set_option maxRecDepth 100000 in
set_option maxHeartbeats 4000000 in
theorem wearBounds_any (S : Skn) (p : Pnt) (w : World) (hS : IsSkn w S) (hg : Laid w) :
    Calls Tryd.prog 20 #[.agg #[.slice S.pa S.pts.length S.pc, .slice S.ha S.hs.length S.hc, .int .i64 S.steep, .int .i64 S.th.lo, .int .i64 S.th.hi, .slice S.ma S.ms.length S.mc], .agg #[.int .i64 p.x, .int .i64 p.y]] w fun e w' => e = .returned (.tuple #[.agg #[.int .i64 (endB (pointE S p) (boundM S p)).lo, .int .i64 (endB (pointE S p) (boundM S p)).hi], .int .i64 (pointE S p)]) ∧ Below w.heap.size w w' := by
  have hmf : ∀ (fn : Fn) (first cap : Array Value) (w : World), (Instr.makeFunc fn first cap).run Tryd.prog w = .ok (.func fn first cap) w := fun _ _ _ _ => rfl
  have k1 := ((Blk.new w 30 #[.slice S.pa S.pts.length S.pc, .slice S.ha S.hs.length S.hc, .int .i64 S.steep, .int .i64 S.th.lo, .int .i64 S.th.hi, .slice S.ma S.ms.length S.mc]).alloc (.cells #[.int .i64 p.x, .int .i64 p.y] 45)).alloc (.cells #[.int .i64 0, .int .i64 0] 27)
  have k2 := (Blk.new (w.alloc (.cells #[.slice S.pa S.pts.length S.pc, .slice S.ha S.hs.length S.hc, .int .i64 S.steep, .int .i64 S.th.lo, .int .i64 S.th.hi, .slice S.ma S.ms.length S.mc] 30)) 45 #[.int .i64 p.x, .int .i64 p.y]).alloc (.cells #[.int .i64 0, .int .i64 0] 27)
  have k3 := Blk.new ((w.alloc (.cells #[.slice S.pa S.pts.length S.pc, .slice S.ha S.hs.length S.hc, .int .i64 S.steep, .int .i64 S.th.lo, .int .i64 S.th.hi, .slice S.ma S.ms.length S.mc] 30)).alloc (.cells #[.int .i64 p.x, .int .i64 p.y] 45)) 27 #[.int .i64 0, .int .i64 0]
  rw [World.size_alloc] at k2
  rw [World.size_alloc, World.size_alloc] at k3
  have hb1 : Below w.heap.size w (((w.alloc (.cells #[.slice S.pa S.pts.length S.pc, .slice S.ha S.hs.length S.hc, .int .i64 S.steep, .int .i64 S.th.lo, .int .i64 S.th.hi, .slice S.ma S.ms.length S.mc] 30)).alloc (.cells #[.int .i64 p.x, .int .i64 p.y] 45)).alloc (.cells #[.int .i64 0, .int .i64 0] 27)) := (((Below.refl _ w).alloc (Nat.le_refl _) _).alloc (by simp) _).alloc (by simp; omega) _
  have HS := Lib.hid hS
  have HG := Lib.hid hg
  clear hS hg
  go_enter Tryd.func20, Tryd.ntmps20
  go_upto_region 1 with fail
  generalize (((w.alloc (.cells #[.slice S.pa S.pts.length S.pc, .slice S.ha S.hs.length S.hc, .int .i64 S.steep, .int .i64 S.th.lo, .int .i64 S.th.hi, .slice S.ma S.ms.length S.mc] 30)).alloc (.cells #[.int .i64 p.x, .int .i64 p.y] 45)).alloc (.cells #[.int .i64 0, .int .i64 0] 27)) = w1 at *
  have HAN := Lib.hid (answer_any w.heap.size (w.heap.size + 1) (pointE S p) (boundM S p) w1 (fun w2 h => boundsIn_any _ _ S p w2 (k1.belowS h) (k2.belowS h) (HS.out.below (hb1.trans (h.mono hb1.size))) (HG.out.below (hb1.trans (h.mono hb1.size)))))
  have HB1 := Lib.hid hb1
  have K3 := Lib.hid k3
  clear k1 k2 k3 hb1
  go_wp2_with fail
  refine HAN.out.mono ?_
  rintro e w2 ⟨rfl, hb⟩
  have HB2 := Lib.hid (HB1.out.trans (hb.mono HB1.out.size))
  have k32 := K3.out.belowS hb
  obtain ⟨U, hU⟩ : ∃ U, endB (pointE S p) (boundM S p) = U := ⟨_, rfl⟩
  obtain ⟨E, hE⟩ : ∃ E, pointE S p = E := ⟨_, rfl⟩
  rw [hU, hE]
  have HEE := Lib.hid hE
  have HU := Lib.hid hU
  clear hb hU hE HAN
  obtain ⟨b0, b1⟩ := spn_cells (s := ⟨0, 0⟩) k32
  have lB := k32.lt
  have z0 := k32.frozen 0
  have z1 := k32.frozen 1
  have KB := Lib.hid k32
  clear k32
  go_wp2_with fail
  have kf : Blk ((w2.setCell ⟨w.heap.size + 1 + 1, 0, none⟩ (.int .i64 U.lo)).setCell ⟨w.heap.size + 1 + 1, 1, none⟩ (.int .i64 U.hi)) (w.heap.size + 1 + 1) #[.int .i64 U.lo, .int .i64 U.hi] 27 := ((KB.out.set 0 (.int .i64 U.lo)).set 1 (.int .i64 U.hi))
  have ht : Turn (fun k => k = w.heap.size + 1 + 1) w2 ((w2.setCell ⟨w.heap.size + 1 + 1, 0, none⟩ (.int .i64 U.lo)).setCell ⟨w.heap.size + 1 + 1, 1, none⟩ (.int .i64 U.hi)) := (((Turn.of_below (X := fun k => k = w.heap.size + 1 + 1) (Below.refl _ w2)).setCell (B := w.heap.size + 1 + 1) rfl 0 (.int .i64 U.lo)).setCell (B := w.heap.size + 1 + 1) rfl 1 (.int .i64 U.hi))
  generalize ((w2.setCell ⟨w.heap.size + 1 + 1, 0, none⟩ (.int .i64 U.lo)).setCell ⟨w.heap.size + 1 + 1, 1, none⟩ (.int .i64 U.hi)) = wf at *
  clear b0 b1 z0 z1
  obtain ⟨g0, g1⟩ := spn_cells kf
  exact bodyPost_ret (v := .tuple #[.agg #[.int .i64 U.lo, .int .i64 U.hi], .int .i64 E]) (by simp [results, Tryd.results20, go_sem, g0, g1]) rfl ⟨by rw [HU.out, HEE.out], HB2.out.trans (ht.below HB2.out.size (fun k e => by rw [show k = w.heap.size + 1 + 1 from e]; omega))⟩
end Go.Proofs.YtoigihmgjacbjaaDoor
