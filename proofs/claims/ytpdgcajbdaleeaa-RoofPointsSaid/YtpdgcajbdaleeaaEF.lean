/- face of the specification: the first error of a face. No condition but the bounds of what is given. -/
import Derived.Test.YtpdgcajbdaleeaaED
set_option linter.unusedSimpArgs false
namespace Go.Proofs.Ytpdgcajbdaleeaa
open Go.RowKit

theorem idxF_any (l : List Fac) (m : ByteArray) : decide (0 ≤ idxF l m) = (l.any fun f => strB f.name m) := by
  unfold idxF
  cases h : l.findIdx? (fun f => strB f.name m) with
  | none =>
    have : (l.any fun f => strB f.name m) = false := by
      rw [List.any_eq_false]
      intro x hx
      have := List.findIdx?_eq_none_iff.1 h x hx
      simpa using this
    rw [this]
    decide
  | some k =>
    have : (l.any fun f => strB f.name m) = true := by
      rw [List.findIdx?_eq_some_iff_getElem] at h
      obtain ⟨hk, h1, _⟩ := h
      rw [List.any_eq_true]
      exact ⟨_, List.getElem_mem hk, h1⟩
    rw [this]
    simp
/-- The faces of a roof in memory. -/
theorem fac_of {w : World} {R : Roo} (hR : IsRoof w R) {i : Nat} {F : Fac} (hF : R.fs[i]? = some F) : ∃ b off, R.fa = some ⟨b, off, none⟩ ∧ b < w.heap.size ∧ R.fs.length ≤ R.fc ∧ R.fc ≤ 9223372036854775807 ∧ ∀ j f, R.fs[j]? = some f → FacAt w b (off + j * 7) f ∧ FacIn w f := by
  rcases hR.1 with ⟨_, h2⟩ | ⟨b, off, cap, h1, h2, h3, h4, h5⟩
  · rw [h2] at hF; simp at hF
  · obtain ⟨e1, -, e3⟩ := slice_inj h1
    subst e3
    exact ⟨b, off, e1, h2, h3, h4, h5⟩
theorem faceE_out {f : Fac} {l : List Fac} (h1 : nameB f.name = true) (h2 : decide (0 ≤ idxF l f.name) = false) (h3 : isFromB f.side 1 4 = true) (h4 : isFromB f.foot 0 10000 = true) (h5 : isFromB f.base 0 10000 = true) (h6 : isFromB f.rise 1 100 = true) (h7 : isFromB f.run 1 100 = true) : faceE f l = outlineE f.cs := by
  unfold faceE
  rw [if_neg (by rw [h1]; simp), if_neg (by rw [h2]; simp), if_neg (by rw [h3]; simp), if_neg (by rw [h4]; simp), if_neg (by rw [h5]; simp), if_neg (by rw [h6]; simp), if_neg (by rw [h7]; simp)]

set_option maxRecDepth 100000 in
set_option maxHeartbeats 16000000 in
theorem refFace_any (R : Roo) (i : Nat) (F : Fac) (w : World) (hF : R.fs[i]? = some F) (hR : IsRoof w R) :
    Calls Try.prog 59 #[.agg #[.slice R.fa R.fs.length R.fc, .slice R.oa R.os.length R.oc], .int .i64 (i : Int)] w fun e w' => e = .returned (.int .i64 (faceE F (R.fs.take i))) ∧ Below w.heap.size w w' := by
  have k1 := Blk.new w 25 #[.slice R.fa R.fs.length R.fc, .slice R.oa R.os.length R.oc]
  have hb1 : Below w.heap.size w (w.alloc (.cells #[.slice R.fa R.fs.length R.fc, .slice R.oa R.os.length R.oc] 25)) := (Below.refl _ w).alloc (Nat.le_refl _) _
  have HR := Lib.hid hR
  have hil : i < R.fs.length := (List.getElem?_eq_some_iff.1 hF).1
  have HQ := Lib.hid hF
  have HIL := Lib.hid hil
  obtain ⟨fb, fo, hfa, hfb, hfc, hfc2, hfs⟩ := fac_of (hR.below hb1) hF
  have hfl := hfs
  have HFS := Lib.hid hfs
  have hi0 : (0 : Int) ≤ (i : Int) := Int.natCast_nonneg _
  have hi1 : (i : Int) < (R.fs.length : Int) := by omega
  obtain ⟨⟨c0, c1, c2, c3, c4, c5, c6⟩, hin⟩ := hfs i F hF
  have HIN := Lib.hid hin
  have HFA := Lib.hid hfa
  clear hR hF hin hfl hfs hfa
  go_enter Try.func59, Try.ntmps59
  go_upto_region 1 with fail
  generalize w.alloc (.cells #[.slice R.fa R.fs.length R.fc, .slice R.oa R.os.length R.oc] 25) = w1 at *
  have K1 := Lib.hid k1
  have HB1 := Lib.hid hb1
  have r0 : w1.cell? ⟨w.heap.size, 0, none⟩ = some (.slice (some ⟨fb, fo, none⟩) R.fs.length R.fc) := by rw [← HFA.out]; exact k1.cell 0
  have hlr := k1.lt
  clear k1 hb1
  go_upto_region 2 with fail
  have kX := Blk.new w1 72 #[.string F.name, .int .i64 F.side, .int .i64 F.foot, .int .i64 F.base, .int .i64 F.rise, .int .i64 F.run, .slice F.ca F.cs.length F.cc]
  have hbx : Below w1.heap.size w1 (w1.alloc (.cells #[.string F.name, .int .i64 F.side, .int .i64 F.foot, .int .i64 F.base, .int .i64 F.rise, .int .i64 F.run, .slice F.ca F.cs.length F.cc] 72)) := (Below.refl _ w1).alloc (Nat.le_refl _) _
  have HBX := Lib.hid (HB1.out.trans (hbx.mono HB1.out.size))
  have HBX1 := Lib.hid hbx
  obtain ⟨BX, hBX⟩ : ∃ BX, w1.heap.size = BX := ⟨_, rfl⟩
  have HFB := Lib.hid (show fb < w1.heap.size from hfb)
  have HLR := Lib.hid hlr
  rw [hBX] at kX ⊢
  clear r0 hlr c0 c1 c2 c3 c4 c5 c6 hbx hBX hfb
  generalize w1.alloc (.cells #[.string F.name, .int .i64 F.side, .int .i64 F.foot, .int .i64 F.base, .int .i64 F.rise, .int .i64 F.run, .slice F.ca F.cs.length F.cc] 72) = wx at *
  have KX := Lib.hid kX
  obtain ⟨x0, x1, x2, x3, x4, x5, x6⟩ := fac_cells (f := F) kX
  have lX := kX.lt
  clear kX
  go_wp2_with fail
  refine (refName_any F.name _ HIN.out.2).mono ?_
  rintro e w' ⟨rfl, rfl⟩
  cases hN : nameB F.name with
  | false =>
    have HV := Lib.hid (show faceE F (R.fs.take i) = 5 by simp [faceE, hN])
    clear hN
    go_wp2_with fail
    go_ret
    exact ⟨by rw [HV.out]; rfl, HBX.out⟩
  | true =>
  have HN := Lib.hid hN
  clear hN
  go_wp2_with fail
  obtain ⟨wx, rfl⟩ : ∃ w0 : World, w0 = wx := ⟨_, rfl⟩
  go_loopw [6] (fun s6 wv => ∃ m : Nat, m ≤ i ∧ s6 = .int .i64 m ∧ (∀ f ∈ R.fs.take m, strB f.name F.name = false) ∧ Below wx.heap.size wx wv) (fun s6 _ => i - (intOf s6).toNat)
  case atStart => exact ⟨0, Nat.zero_le _, rfl, by simp, Below.refl _ _⟩
  case round =>
    clear x0 x1 x2 x3 x4 x5 x6 lX
    obtain ⟨m, hm, rfl, hno, hb⟩ := hrel
    have HNO := Lib.hid hno
    have HB := Lib.hid hb
    have HBW := Lib.hid (HBX.out.trans (hb.mono HBX.out.size))
    have KF := Lib.hid (KX.out.belowS hb)
    have HW1 := Lib.hid (HBX1.out.trans (hb.mono HBX1.out.size))
    obtain ⟨wo, rfl⟩ : ∃ wo : World, wo = wr := ⟨_, rfl⟩
    have hm0 : (0 : Int) ≤ (m : Int) := Int.natCast_nonneg _
    obtain ⟨x0, x1, x2, x3, x4, x5, x6⟩ := fac_cells (f := F) KF.out
    have lX := KF.out.lt
    clear hno hb
    by_cases hmi : m < i
    · have hml : m < R.fs.length := by have := HIL.out; omega
      have hqm : R.fs[m]? = some R.fs[m] := List.getElem?_eq_getElem hml
      have hta : R.fs.take (m + 1) = R.fs.take m ++ [R.fs[m]] := by rw [List.take_add_one, hqm]; rfl
      have g0 := ((HFS.out m _ hqm).1.below HW1.out HFB.out).1
      have hlb : fb < wo.heap.size := Nat.lt_of_lt_of_le HFB.out HW1.out.size
      have r0 : wo.cell? ⟨w.heap.size, 0, none⟩ = some (.slice (some ⟨fb, fo, none⟩) R.fs.length R.fc) := by rw [← HFA.out]; exact (K1.out.belowS HW1.out).cell 0
      have hlr := (K1.out.belowS HW1.out).lt
      generalize R.fs[m] = y at *
      have HTA := Lib.hid hta
      have hm1 : (m : Int) < (R.fs.length : Int) := by omega
      have hm2 : (m : Int) < (i : Int) := by omega
      clear hqm hta
      go_upto_region 7 with fail
      cases hS : strB y.name F.name with
      | true =>
        have HV := Lib.hid (show faceE F (R.fs.take i) = 6 by
          have h1 : decide (0 ≤ idxF (R.fs.take i) F.name) = true := by
            rw [idxF_any, List.any_eq_true]
            exact ⟨y, List.mem_of_mem_take (i := m + 1) (by rw [List.take_take, Nat.min_eq_left (by omega), HTA.out]; simp), hS⟩
          unfold faceE
          rw [if_neg (by rw [HN.out]; simp), if_pos h1])
        have hs2 : (y.name.toList == F.name.toList) = true := hS
        clear hS
        go_region
        go_wp2_with fail
        go_ret
        exact ⟨by rw [HV.out]; rfl, HBW.out.drew⟩
      | false =>
        have hs2 : (y.name.toList == F.name.toList) = false := hS
        have HSF := Lib.hid hS
        clear hS
        go_region
        go_wp2_with fail
        refine ⟨⟨m + 1, by omega, by simp, ?_, HB.out.drew⟩, by simp [intOf]; omega⟩
        rw [HTA.out]
        intro f hf
        rcases List.mem_append.1 hf with hf | hf
        · exact HNO.out f hf
        · obtain rfl := List.mem_singleton.1 hf
          exact HSF.out
    obtain rfl : m = i := by omega
    have hmm : ¬ (m : Int) < (m : Int) := by omega
    have HD := Lib.hid (show decide (0 ≤ idxF (R.fs.take m) F.name) = false by
      rw [idxF_any, List.any_eq_false]
      intro f hf
      rw [HNO.out f hf]
      simp)
    clear hm hmi HNO
    by_cases hs1 : F.side < 1
    · have HV := Lib.hid (show faceE F (R.fs.take m) = 1 by
        have : isFromB F.side 1 4 = false := by simp [isFromB]; omega
        unfold faceE
        rw [if_neg (by rw [HN.out]; simp), if_neg (by rw [HD.out]; simp), if_pos this])
      go_wp2_with fail
      go_ret
      exact ⟨by rw [HV.out]; rfl, HBW.out⟩
    by_cases hs4 : (4 : Int) < F.side
    · have HV := Lib.hid (show faceE F (R.fs.take m) = 1 by
        have : isFromB F.side 1 4 = false := by simp [isFromB]; omega
        unfold faceE
        rw [if_neg (by rw [HN.out]; simp), if_neg (by rw [HD.out]; simp), if_pos this])
      go_wp2_with fail
      go_ret
      exact ⟨by rw [HV.out]; rfl, HBW.out⟩
    have HSI := Lib.hid (show isFromB F.side 1 4 = true by simp [isFromB]; omega)
    have HBX := Lib.hid HBW.out
    go_wp2_with fail
    refine (refIn1_any _ _ _ _).mono ?_
    rintro e w' ⟨rfl, rfl⟩
    cases hc : isFromB F.foot 0 10000 with
    | false =>
      have HV := Lib.hid (show faceE F (R.fs.take m) = 1 by simp [faceE, HN.out, HD.out, HSI.out, hc])
      clear hc
      go_wp2_with fail
      go_ret
      exact ⟨by rw [HV.out]; rfl, HBX.out⟩
    | true =>
    have HFO := Lib.hid hc
    clear hc
    go_wp2_with fail
    refine (refIn1_any _ _ _ _).mono ?_
    rintro e w' ⟨rfl, rfl⟩
    cases hc : isFromB F.base 0 10000 with
    | false =>
      have HV := Lib.hid (show faceE F (R.fs.take m) = 1 by simp [faceE, HN.out, HD.out, HSI.out, HFO.out, hc])
      clear hc
      go_wp2_with fail
      go_ret
      exact ⟨by rw [HV.out]; rfl, HBX.out⟩
    | true =>
    have HBA := Lib.hid hc
    clear hc
    go_wp2_with fail
    refine (refIn1_any _ _ _ _).mono ?_
    rintro e w' ⟨rfl, rfl⟩
    cases hc : isFromB F.rise 1 100 with
    | false =>
      have HV := Lib.hid (show faceE F (R.fs.take m) = 1 by simp [faceE, HN.out, HD.out, HSI.out, HFO.out, HBA.out, hc])
      clear hc
      go_wp2_with fail
      go_ret
      exact ⟨by rw [HV.out]; rfl, HBX.out⟩
    | true =>
    have HRI := Lib.hid hc
    clear hc
    go_wp2_with fail
    refine (refIn1_any _ _ _ _).mono ?_
    rintro e w' ⟨rfl, rfl⟩
    cases hc : isFromB F.run 1 100 with
    | false =>
      have HV := Lib.hid (show faceE F (R.fs.take m) = 1 by simp [faceE, HN.out, HD.out, HSI.out, HFO.out, HBA.out, HRI.out, hc])
      clear hc
      go_wp2_with fail
      go_ret
      exact ⟨by rw [HV.out]; rfl, HBX.out⟩
    | true =>
    have HRU := Lib.hid hc
    clear hc
    have HFE := Lib.hid (faceE_out HN.out HD.out HSI.out HFO.out HBA.out HRI.out HRU.out)
    by_cases h12 : (12 : Int) < (F.cs.length : Int)
    · have HV := Lib.hid (show faceE F (R.fs.take m) = 3 by rw [HFE.out, outlineE, if_pos (by omega)])
      go_wp2_with fail
      go_ret
      exact ⟨by rw [HV.out]; rfl, HBX.out⟩
    by_cases h3 : (F.cs.length : Int) < 3
    · have HV := Lib.hid (show faceE F (R.fs.take m) = 1 by rw [HFE.out, outlineE, if_neg (by omega), if_pos (by omega)])
      go_wp2_with fail
      go_ret
      exact ⟨by rw [HV.out]; rfl, HBX.out⟩
    have HLE := Lib.hid (show 3 ≤ F.cs.length ∧ F.cs.length ≤ 12 by omega)
    have HPT := Lib.hid (HIN.out.1.below HW1.out)
    have hlen : F.cs.length ≤ 1000 := by have := HLE.out; omega
    go_wp2_with fail
    clear x0 x1 x2 x3 x4 x5 x6 lX hmm
    obtain ⟨wy, rfl⟩ : ∃ w0 : World, w0 = wo := ⟨_, rfl⟩
    go_loopw [7] (fun s7 wv => ∃ j : Nat, j ≤ F.cs.length ∧ s7 = .int .i64 j ∧ (F.cs.take j).all Pnt.okB = true ∧ Below wy.heap.size wy wv) (fun s7 _ => F.cs.length - (intOf s7).toNat)
    case atStart => exact ⟨0, Nat.zero_le _, rfl, by simp, Below.refl _ _⟩
    case round =>
      obtain ⟨j, hj, rfl, hall, hb⟩ := hrel
      have HALL := Lib.hid hall
      have HB := Lib.hid hb
      have HBV := Lib.hid (HBX.out.trans (hb.mono HBX.out.size))
      obtain ⟨wo, rfl⟩ : ∃ w0 : World, w0 = wr := ⟨_, rfl⟩
      have hj0 : (0 : Int) ≤ (j : Int) := Int.natCast_nonneg _
      obtain ⟨x0, x1, x2, x3, x4, x5, x6⟩ := fac_cells (f := F) (KF.out.belowS hb)
      have lX := (KF.out.belowS hb).lt
      by_cases hjl : j < F.cs.length
      · have hj1 : (j : Int) < (F.cs.length : Int) := by omega
        obtain ⟨cb, co, hca, hcbl, hcc1, hcc2, hcp⟩ := cor_at (HPT.out.below hb) hjl
        obtain ⟨y0, y1⟩ := hcp j hjl
        have hjc : (j : Int) < (F.cc : Int) := by omega
        have hq : F.cs[j]? = some (cor F.cs j) := by unfold cor; rw [List.getElem?_eq_getElem hjl]; rfl
        have HTK := Lib.hid (take_all_succ F.cs Pnt.okB j _ hq)
        have HMEM := Lib.hid (cor_mem hjl)
        have HJL := Lib.hid hjl
        have HCA := Lib.hid hca
        rw [hca] at x6
        generalize cor F.cs j = q at *
        clear hca hq hall hb hcp hjl hcc1 hcc2
        go_wp2_with fail
        refine (refPlanned_any q _).mono ?_
        rintro e w3 ⟨rfl, hb3⟩
        have HB3 := Lib.hid (HB.out.trans (hb3.mono HB.out.size))
        have HBV3 := Lib.hid (HBV.out.trans (hb3.mono HBV.out.size))
        clear hb3 x0 x1 x2 x3 x4 x5 x6 lX y0 y1 hcbl
        cases hok : q.okB with
        | false =>
          have HV := Lib.hid (show faceE F (R.fs.take m) = 1 by
            have h1 : F.cs.all Pnt.okB = false := List.all_eq_false.2 ⟨q, HMEM.out, by rw [hok]; simp⟩
            rw [HFE.out, outlineE, if_neg (by have := HLE.out; omega), if_neg (by have := HLE.out; omega), if_pos h1])
          clear hok
          go_wp2_with fail
          go_ret
          exact ⟨by rw [HV.out]; rfl, HBV3.out⟩
        | true =>
          have HOKQ := Lib.hid hok
          clear hok
          go_wp2_with fail
          exact ⟨⟨j + 1, by have := HJL.out; omega, by simp, by rw [HTK.out, HALL.out, HOKQ.out]; rfl, HB3.out⟩, by have := HJL.out; simp [intOf]; omega⟩
      obtain rfl : j = F.cs.length := by omega
      have hjj : ¬ (F.cs.length : Int) < (F.cs.length : Int) := by omega
      have hal : F.cs.all Pnt.okB = true := by rwa [List.take_of_length_le (Nat.le_refl _)] at hall
      have HA := Lib.hid hal
      have HOK := Lib.hid (show okPts F.cs from fun p hp => Pnt.okB_iff.1 (List.all_eq_true.1 hal p hp))
      have KZ := Lib.hid (KF.out.belowS hb)
      have HPZ := Lib.hid (HPT.out.below hb)
      clear hall hal hb hjl hj
      go_wp2_with fail
      clear x0 x1 x2 x3 x4 x5 x6 lX hjj
      obtain ⟨wz, rfl⟩ : ∃ w0 : World, w0 = wo := ⟨_, rfl⟩
      go_loopw [8, 9] (fun s8 _ wv => ∃ j : Nat, j ≤ F.cs.length ∧ s8 = .int .i64 j ∧ (∀ k, k < j → decide (F.cs[k]?.getD ⟨0, 0⟩ ∈ F.cs.take k) = false) ∧ Below wz.heap.size wz wv) (fun s8 _ _ => F.cs.length - (intOf s8).toNat)
      case atStart => exact ⟨0, Nat.zero_le _, rfl, fun k h => by omega, Below.refl _ _⟩
      case round =>
        obtain ⟨j, hj, rfl, hno, hb⟩ := hrel
        have HNO := Lib.hid hno
        have HB := Lib.hid hb
        have HBW2 := Lib.hid (HBV.out.trans (hb.mono HBV.out.size))
        obtain ⟨wo, rfl⟩ : ∃ w0 : World, w0 = wr := ⟨_, rfl⟩
        have hj0 : (0 : Int) ≤ (j : Int) := Int.natCast_nonneg _
        obtain ⟨x0, x1, x2, x3, x4, x5, x6⟩ := fac_cells (f := F) (KZ.out.belowS hb)
        have lX := (KZ.out.belowS hb).lt
        clear hno
        by_cases hjl : j < F.cs.length
        · have hj1 : (j : Int) < (F.cs.length : Int) := by omega
          have HJL := Lib.hid hjl
          clear hjl hj hb
          go_wp2_with fail
          clear x0 x1 x2 x3 x4 x5 x6 lX
          go_loopw [9] (fun s9 wv => ∃ k : Nat, k ≤ j ∧ s9 = .int .i64 k ∧ (∀ i, i < k → cor F.cs i ≠ cor F.cs j) ∧ Below wz.heap.size wz wv) (fun s9 _ => j - (intOf s9).toNat)
          case atStart => exact ⟨0, Nat.zero_le _, rfl, fun k h => by omega, HB.out⟩
          case round =>
            obtain ⟨k, hk, rfl, hdi, hb⟩ := hrel
            have HDI := Lib.hid hdi
            have HBK := Lib.hid hb
            have HBW3 := Lib.hid (HBV.out.trans (hb.mono HBV.out.size))
            obtain ⟨wi, rfl⟩ : ∃ w0 : World, w0 = wr := ⟨_, rfl⟩
            have hk0 : (0 : Int) ≤ (k : Int) := Int.natCast_nonneg _
            clear hdi
            by_cases hkj : k < j
            · have hkj' : (k : Int) < (j : Int) := by omega
              have hkl' : (k : Int) < (F.cs.length : Int) := by omega
              obtain ⟨x0, x1, x2, x3, x4, x5, x6⟩ := fac_cells (f := F) (KZ.out.belowS hb)
              have lX := (KZ.out.belowS hb).lt
              obtain ⟨cb, co, hca, hcbl, hcc1, hcc2, hcp⟩ := cor_at (HPZ.out.below hb) HJL.out
              obtain ⟨y0, y1⟩ := hcp j HJL.out
              obtain ⟨v0, v1⟩ := hcp k (Nat.lt_trans hkj HJL.out)
              have hjc : (j : Int) < (F.cc : Int) := by omega
              have hkc : (k : Int) < (F.cc : Int) := by omega
              have HKJ := Lib.hid hkj
              obtain ⟨d, hd⟩ : ∃ d, decide (cor F.cs j = cor F.cs k) = d := ⟨_, rfl⟩
              have he : ∀ w, (Op.equalIn 10000 27 (.agg #[.int .i64 (cor F.cs j).x, .int .i64 (cor F.cs j).y]) (.agg #[.int .i64 (cor F.cs k).x, .int .i64 (cor F.cs k).y])).run Try.prog w = .ok d w := fun w => (run_equalIn_at 9998 (cor F.cs j) (cor F.cs k) w).trans (by rw [hd])
              have HTW := Lib.hid (fun h : d = true => show faceE F (R.fs.take m) = 6 by
                subst h
                have ht : twiceP F.cs = true := List.any_eq_true.2 ⟨j, List.mem_range.2 HJL.out, by
                  rw [decide_eq_true_iff]
                  show cor F.cs j ∈ F.cs.take j
                  rw [of_decide_eq_true hd, List.mem_take_iff_getElem]
                  exact ⟨k, by have := HJL.out; omega, by unfold cor; rw [List.getElem?_eq_getElem (by have := HJL.out; omega)]; rfl⟩⟩
                rw [HFE.out, outlineE, if_neg (by have := HLE.out; omega), if_neg (by have := HLE.out; omega), if_neg (by rw [HA.out]; simp), if_pos ht])
              have HNE := Lib.hid (fun h : d = false => show ∀ i, i < k + 1 → cor F.cs i ≠ cor F.cs j from fun i hi e => by
                by_cases hik : i = k
                · subst hik
                  rw [decide_eq_true e.symm] at hd
                  rw [← hd] at h
                  cases h
                · exact HDI.out i (by omega) e)
              rw [hca] at x6
              have HCA := Lib.hid hca
              generalize cor F.cs j = q at *
              generalize cor F.cs k = r at *
              clear hca hd hkj hk HDI hcp hb hcc1 hcc2
              go_upto_region 26 with fail
              go_quiet (fail)
              have hbq := below_drewN wi.heap.size wi nq
              have HBQ := Lib.hid (HBK.out.trans (hbq.mono HBK.out.size))
              have HBQ3 := Lib.hid (HBW3.out.trans (hbq.mono HBW3.out.size))
              clear x0 x1 x2 x3 x4 x5 x6 lX y0 y1 v0 v1 hcbl hbq
              generalize wi.drewN nq = wq at *
              cases d with
              | true =>
                have HV := Lib.hid (HTW.out rfl)
                go_wp2_with fail
                go_ret
                exact ⟨by rw [HV.out]; rfl, HBQ3.out⟩
              | false =>
                go_wp2_with fail
                exact ⟨⟨k + 1, by have := HKJ.out; omega, by simp, HNE.out rfl, HBQ.out⟩, by have := HKJ.out; simp [intOf]; omega⟩
            obtain rfl : k = j := by omega
            have hkk : ¬ (k : Int) < (k : Int) := by omega
            have HNX := Lib.hid (show ∀ i, i < k + 1 → decide (F.cs[i]?.getD ⟨0, 0⟩ ∈ F.cs.take i) = false from fun i hi => by
              by_cases e : i = k
              · subst e
                rw [decide_eq_false_iff_not]
                show ¬ cor F.cs i ∈ F.cs.take i
                intro h
                rw [List.mem_take_iff_getElem] at h
                obtain ⟨t, ht, h2⟩ := h
                refine HDI.out t (by omega) ?_
                rw [← h2]
                unfold cor
                rw [List.getElem?_eq_getElem (by omega)]
                rfl
              · exact HNO.out i (by omega))
            clear hkj hk hb
            go_wp2_with fail
            exact ⟨⟨k + 1, by have := HJL.out; omega, by simp, HNX.out, HBK.out⟩, by have := HJL.out; simp [intOf]; omega⟩
        obtain rfl : j = F.cs.length := by omega
        have hjj : ¬ (F.cs.length : Int) < (F.cs.length : Int) := by omega
        have HTW := Lib.hid (show twiceP F.cs = false by
          unfold twiceP
          rw [List.any_eq_false]
          intro k hk
          rw [HNO.out k (List.mem_range.1 hk)]
          simp)
        have hcv := refConvex_any F wo (HPZ.out.below hb) hlen HOK.out
        obtain ⟨cv, hcvx⟩ : ∃ cv, convX F.cs = cv := ⟨_, rfl⟩
        rw [hcvx] at hcv
        have HCV := Lib.hid hcv
        have HCX := Lib.hid (show convexL F.cs = cv by rw [← hcvx, convX_eq HLE.out.1 HTW.out])
        clear hcv hcvx hjl hj hb
        go_wp2_with fail
        refine HCV.out.mono ?_
        rintro e w5 ⟨rfl, hb5⟩
        have HB5 := Lib.hid (HBW2.out.trans (hb5.mono HBW2.out.size))
        clear hb5 x0 x1 x2 x3 x4 x5 x6 lX hjj HCV
        cases cv with
        | false =>
          have HV := Lib.hid (show faceE F (R.fs.take m) = 9 by
            rw [HFE.out, outlineE, if_neg (by have := HLE.out; omega), if_neg (by have := HLE.out; omega), if_neg (by rw [HA.out]; simp), if_neg (by rw [HTW.out]; simp), if_pos HCX.out])
          go_wp2_with fail
          go_ret
          exact ⟨by rw [HV.out]; rfl, HB5.out⟩
        | true =>
          have HV := Lib.hid (show faceE F (R.fs.take m) = 0 by
            rw [HFE.out, outlineE, if_neg (by have := HLE.out; omega), if_neg (by have := HLE.out; omega), if_neg (by rw [HA.out]; simp), if_neg (by rw [HTW.out]; simp), if_neg (by rw [HCX.out]; simp)])
          go_wp2_with fail
          go_ret
          exact ⟨by rw [HV.out]; rfl, HB5.out⟩
end Go.Proofs.Ytpdgcajbdaleeaa
