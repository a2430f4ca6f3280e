/- Check of the specification: the first error of a roof. No condition but that it is a roof in memory. -/
import Derived.Test.YtpdgcajbdaleeaaEG
import Derived.Test.YtpdgcajbdaleeaaEH
import Derived.Test.YtpdgcajbdaleeaaEI
set_option linter.unusedSimpArgs false
namespace Go.Proofs.Ytpdgcajbdaleeaa
open Go.RowKit

theorem open_lt {o : Opn} {l : List Opn} {fs : List Fac} (h : openE o l fs = 0) : o.lo.x < o.hi.x ∧ o.lo.y < o.hi.y := by
  unfold openE at h
  split at h
  · omega
  split at h
  · omega
  split at h
  · omega
  split at h
  · omega
  split at h
  · omega
  omega
theorem open_ahead {os : List Opn} {fs : List Fac} {j : Nat} (h : ∀ k, k < j → (match os[k]? with | some f => openE f (os.take k) fs | none => 0) = 0) (hj : j < os.length) : ∀ x ∈ os.take j, x.lo.x < x.hi.x ∧ x.lo.y < x.hi.y := by
  intro x hx
  obtain ⟨k, hk, rfl⟩ := List.getElem_of_mem hx
  rw [List.length_take] at hk
  have h1 := h k (by omega)
  rw [List.getElem?_eq_getElem (by omega)] at h1
  rw [List.getElem_take]
  exact open_lt h1
theorem edge_ne {l : List Pnt} (h : outlineE l = 0) {k : Nat} (hk : k < l.length) : cor l k ≠ cor l ((k + 1) % l.length) := by
  obtain ⟨h3, -, -, ht, -⟩ := outline_ok h
  by_cases hk1 : k + 1 < l.length
  · rw [Nat.mod_eq_of_lt hk1]
    exact twice_ne ht (by omega) hk1
  · have : k + 1 = l.length := by omega
    rw [this, Nat.mod_self]
    exact (twice_ne ht (by omega) hk).symm
theorem facesE_out {fs : List Fac} (h : facesE fs = 0) : ∀ f ∈ fs, outlineE f.cs = 0 := by
  intro f hf
  obtain ⟨i, hi, rfl⟩ := List.getElem_of_mem hf
  have := firstNZ_all h i hi
  rw [List.getElem?_eq_getElem hi] at this
  exact faceE_pts this

set_option maxRecDepth 100000 in
set_option maxHeartbeats 16000000 in
theorem refCheck_any (R : Roo) (w : World) (hR : IsRoof w R) :
    Calls Try.prog 35 #[.agg #[.slice R.fa R.fs.length R.fc, .slice R.oa R.os.length R.oc]] w fun e w' => e = .returned (.int .i64 (checkE R)) ∧ Below w.heap.size w w' := by
  have k1 := Blk.new w 25 #[.slice R.fa R.fs.length R.fc, .slice R.oa R.os.length R.oc]
  have hb1 : Below w.heap.size w (w.alloc (.cells #[.slice R.fa R.fs.length R.fc, .slice R.oa R.os.length R.oc] 25)) := (Below.refl _ w).alloc (Nat.le_refl _) _
  have HR1 := Lib.hid (hR.below hb1)
  clear hR
  go_enter Try.func35, Try.ntmps35
  go_upto_region 1 with fail
  generalize w.alloc (.cells #[.slice R.fa R.fs.length R.fc, .slice R.oa R.os.length R.oc] 25) = w1 at *
  have K1 := Lib.hid k1
  have HB1 := Lib.hid hb1
  have r0 : w1.cell? ⟨w.heap.size, 0, none⟩ = some (.slice R.fa R.fs.length R.fc) := k1.cell 0
  have r1 : w1.cell? ⟨w.heap.size, 1, none⟩ = some (.slice R.oa R.os.length R.oc) := k1.cell 1
  have hlr := k1.lt
  clear k1 hb1
  by_cases h16 : 16 < R.fs.length
  · have HV := Lib.hid (show checkE R = 3 by unfold checkE; rw [if_pos h16])
    have hi16 : (16 : Int) < (R.fs.length : Int) := by omega
    clear h16
    go_wp2_with fail
    go_ret
    exact ⟨by rw [HV.out]; try rfl, HB1.out⟩
  have hi16 : ¬ (16 : Int) < (R.fs.length : Int) := by omega
  have HN16 := Lib.hid h16
  clear h16
  go_wp2_with fail
  have hl16 : (R.fs.length : Int) ≤ 16 := by omega
  clear hi16
  go_loopw [3, 4] (fun s _ wv => ∃ j : Nat, j ≤ R.fs.length ∧ s = .int .i64 j ∧ (∀ k, k < j → (match R.fs[k]? with | some f => faceE f (R.fs.take k) | none => 0) = 0) ∧ Below w1.heap.size w1 wv) (fun s _ _ => R.fs.length - (intOf s).toNat)
  case atStart => exact ⟨0, Nat.zero_le _, rfl, fun k h => by omega, Below.refl _ _⟩
  case round =>
    clear r0 r1 hlr
    obtain ⟨j, hj, rfl, hno, hb⟩ := hrel
    have HNO := Lib.hid hno
    have HW := Lib.hid hb
    have hlr := (K1.out.belowS hb).lt
    have r0 : wr.cell? ⟨w.heap.size, 0, none⟩ = some (.slice R.fa R.fs.length R.fc) := (K1.out.belowS hb).cell 0
    have r1 : wr.cell? ⟨w.heap.size, 1, none⟩ = some (.slice R.oa R.os.length R.oc) := (K1.out.belowS hb).cell 1
    obtain ⟨wp, rfl⟩ : ∃ wp : World, wp = wr := ⟨_, rfl⟩
    have hj0 : (0 : Int) ≤ (j : Int) := Int.natCast_nonneg _
    clear hno hb
    by_cases hlj : j < R.fs.length
    · have hq : R.fs[j]? = some R.fs[j] := List.getElem?_eq_getElem hlj
      have hj1 : (j : Int) < (R.fs.length : Int) := by omega
      have HC := Lib.hid (refFace_any R j _ wp hq (HR1.out.below HW.out))
      have HIE := Lib.hid (show (match R.fs[j]? with | some f => faceE f (R.fs.take j) | none => 0) = faceE R.fs[j] (R.fs.take j) by rw [hq])
      generalize faceE R.fs[j] (R.fs.take j) = E at *
      have HLJ := Lib.hid hlj
      clear hq hlj
      go_wp2_with fail
      refine HC.out.mono ?_
      rintro e w3 ⟨rfl, hb3⟩
      have HB3 := Lib.hid (HW.out.trans (hb3.mono HW.out.size))
      have HB3W := Lib.hid (HB1.out.trans (HB3.out.mono HB1.out.size))
      clear hb3 r0 r1 hlr HC
      by_cases hE : E = 0
      · have hz1 : (E == 0) = true := by simp [hE]
        have hz2 : (E != 0) = false := by simp [hE]
        have HE := Lib.hid hE
        clear hE
        go_wp2_with fail
        refine ⟨⟨j + 1, by have := HLJ.out; omega, by simp, ?_, HB3.out⟩, by have := HLJ.out; simp [intOf]; omega⟩
        intro k hk
        by_cases hkj : k = j
        · subst hkj
          exact HIE.out.trans HE.out
        · exact HNO.out k (by omega)
      · have hz1 : (E == 0) = false := by simp [hE]
        have hz2 : (E != 0) = true := by simp [hE]
        have hfe : facesE R.fs = E := by
          have := firstNZ_at (g := fun i => match R.fs[i]? with | some f => faceE f (R.fs.take i) | none => 0) HLJ.out (fun i hi => HNO.out i hi) (by show (match R.fs[j]? with | some f => _ | none => _) ≠ _; rw [HIE.out]; exact hE)
          exact this.trans HIE.out
        have HV := Lib.hid (show checkE R = E by
          unfold checkE
          rw [if_neg HN16.out, if_pos (by rw [hfe]; exact hE), hfe])
        clear hfe hE
        go_wp2_with fail
        go_ret
        exact ⟨by rw [HV.out]; try rfl, HB3W.out⟩
    obtain rfl : j = R.fs.length := by omega
    have hjj : ¬ (R.fs.length : Int) < (R.fs.length : Int) := by omega
    have hfe : facesE R.fs = 0 := firstNZ_zero (fun i hi => HNO.out i hi)
    clear HNO
    have HFE := Lib.hid hfe
    have hpts := facesE_pts hfe
    have HPTS := Lib.hid hpts
    have HOUT := Lib.hid (facesE_out hfe)
    clear hfe hpts
    have HWW := Lib.hid (HB1.out.trans (HW.out.mono HB1.out.size))
    by_cases h12 : 12 < R.os.length
    · have HV := Lib.hid (show checkE R = 3 by
        unfold checkE
        rw [if_neg HN16.out, if_neg (by rw [HFE.out]; simp), if_pos h12])
      have hi12 : (12 : Int) < (R.os.length : Int) := by omega
      clear h12
      go_wp2_with fail
      go_ret
      exact ⟨by rw [HV.out]; try rfl, HWW.out⟩
    have hi12 : ¬ (12 : Int) < (R.os.length : Int) := by omega
    have HN12 := Lib.hid h12
    clear h12
    go_wp2_with fail
    have hl12 : (R.os.length : Int) ≤ 12 := by omega
    clear hi12
    go_loopw [5, 6] (fun s _ wv => ∃ j : Nat, j ≤ R.os.length ∧ s = .int .i64 j ∧ (∀ k, k < j → (match R.os[k]? with | some f => openE f (R.os.take k) R.fs | none => 0) = 0) ∧ Below w1.heap.size w1 wv) (fun s _ _ => R.os.length - (intOf s).toNat)
    case atStart => exact ⟨0, Nat.zero_le _, rfl, fun k h => by omega, HW.out⟩
    case round =>
      clear r0 r1 hlr hjj hj hj0
      obtain ⟨j, hj, rfl, hno, hb⟩ := hrel
      have HNO := Lib.hid hno
      clear HW HWW
      have HW := Lib.hid hb
      have hlr := (K1.out.belowS hb).lt
      have r0 : wr.cell? ⟨w.heap.size, 0, none⟩ = some (.slice R.fa R.fs.length R.fc) := (K1.out.belowS hb).cell 0
      have r1 : wr.cell? ⟨w.heap.size, 1, none⟩ = some (.slice R.oa R.os.length R.oc) := (K1.out.belowS hb).cell 1
      obtain ⟨wp, rfl⟩ : ∃ wp : World, wp = wr := ⟨_, rfl⟩
      have hj0 : (0 : Int) ≤ (j : Int) := Int.natCast_nonneg _
      clear hno hb
      by_cases hlj : j < R.os.length
      · have hq : R.os[j]? = some R.os[j] := List.getElem?_eq_getElem hlj
        have hj1 : (j : Int) < (R.os.length : Int) := by omega
        have HC := Lib.hid (refOpen_any R j _ wp hq (HR1.out.below HW.out) (by have := HN16.out; omega) HPTS.out (open_ahead (fun i hi => HNO.out i hi) hlj))
        have HIE := Lib.hid (show (match R.os[j]? with | some f => openE f (R.os.take j) R.fs | none => 0) = openE R.os[j] (R.os.take j) R.fs by rw [hq])
        generalize openE R.os[j] (R.os.take j) R.fs = E at *
        have HLJ := Lib.hid hlj
        clear hq hlj
        go_wp2_with fail
        refine HC.out.mono ?_
        rintro e w3 ⟨rfl, hb3⟩
        have HB3 := Lib.hid (HW.out.trans (hb3.mono HW.out.size))
        have HB3W := Lib.hid (HB1.out.trans (HB3.out.mono HB1.out.size))
        clear hb3 r0 r1 hlr HC
        by_cases hE : E = 0
        · have hz1 : (E == 0) = true := by simp [hE]
          have hz2 : (E != 0) = false := by simp [hE]
          have HE := Lib.hid hE
          clear hE
          go_wp2_with fail
          refine ⟨⟨j + 1, by have := HLJ.out; omega, by simp, ?_, HB3.out⟩, by have := HLJ.out; simp [intOf]; omega⟩
          intro k hk
          by_cases hkj : k = j
          · subst hkj
            exact HIE.out.trans HE.out
          · exact HNO.out k (by omega)
        · have hz1 : (E == 0) = false := by simp [hE]
          have hz2 : (E != 0) = true := by simp [hE]
          have hfe : opensE R.os R.fs = E := by
            have := firstNZ_at (g := fun i => match R.os[i]? with | some f => openE f (R.os.take i) R.fs | none => 0) HLJ.out (fun i hi => HNO.out i hi) (by show (match R.os[j]? with | some f => _ | none => _) ≠ _; rw [HIE.out]; exact hE)
            exact this.trans HIE.out
          have HV := Lib.hid (show checkE R = E by
            unfold checkE
            rw [if_neg HN16.out, if_neg (by rw [HFE.out]; simp), if_neg HN12.out, if_pos (by rw [hfe]; exact hE), hfe])
          clear hfe hE
          go_wp2_with fail
          go_ret
          exact ⟨by rw [HV.out]; try rfl, HB3W.out⟩
      obtain rfl : j = R.os.length := by omega
      have hjj : ¬ (R.os.length : Int) < (R.os.length : Int) := by omega
      have hfe : opensE R.os R.fs = 0 := firstNZ_zero (fun i hi => HNO.out i hi)
      clear HNO
      have HOE := Lib.hid hfe
      have HTO := Lib.hid (show checkE R = togetherE R.fs by
        unfold checkE
        rw [if_neg HN16.out, if_neg (by rw [HFE.out]; simp), if_neg HN12.out, if_neg (by rw [HOE.out]; simp)])
      clear hfe
      go_wp2_with fail
      go_loopw [7, 8] (fun s _ wv => ∃ j : Nat, j ≤ R.fs.length ∧ s = .int .i64 j ∧ (∀ k f, k < j → R.fs[k]? = some f → ((R.fs.take k).any fun g => coveredL f.cs g.cs) = false) ∧ Below w1.heap.size w1 wv) (fun s _ _ => R.fs.length - (intOf s).toNat)
      case atStart => exact ⟨0, Nat.zero_le _, rfl, fun k f h => by omega, HW.out⟩
      case round =>
        clear r0 r1 hlr HW hjj hj hj0
        obtain ⟨j, hj, rfl, hno, hb⟩ := hrel
        have HNO := Lib.hid hno
        have HW := Lib.hid hb
        obtain ⟨wp, rfl⟩ : ∃ wp : World, wp = wr := ⟨_, rfl⟩
        have hlr := (K1.out.belowS hb).lt
        have r0 : wp.cell? ⟨w.heap.size, 0, none⟩ = some (.slice R.fa R.fs.length R.fc) := (K1.out.belowS hb).cell 0
        have hj0 : (0 : Int) ≤ (j : Int) := Int.natCast_nonneg _
        clear hno hb
        by_cases hlj : j < R.fs.length
        · have hq : R.fs[j]? = some R.fs[j] := List.getElem?_eq_getElem hlj
          have hj1 : (j : Int) < (R.fs.length : Int) := by omega
          obtain ⟨fb, fo, hfa, hfb, hfc, hfc2, hfp⟩ := fac_of HR1.out hq
          have HPF1 := Lib.hid (fun k f (h : R.fs[k]? = some f) W (hb : Below w1.heap.size w1 W) => (show FacAt W fb (fo + k * 7) f ∧ FacIn W f from ⟨(hfp k f h).1.below hb hfb, (hfp k f h).2.below hb⟩))
          have hfc3 : (j : Int) < (R.fc : Int) := by omega
          generalize R.fs[j] = F at *
          have HF := Lib.hid hq
          rw [hfa] at r0
          have HFA := Lib.hid hfa
          have HLJ := Lib.hid hlj
          have HFBL := Lib.hid hfb
          clear hq hfp hfa hfb hlj
          go_wp2_with fail
          obtain ⟨wq, rfl⟩ : ∃ w0 : World, w0 = wp := ⟨_, rfl⟩
          go_loopw [8] (fun s wv => ∃ m : Nat, m ≤ j ∧ s = .int .i64 m ∧ ((R.fs.take m).any fun g => coveredL F.cs g.cs) = false ∧ Below w1.heap.size w1 wv) (fun s _ => j - (intOf s).toNat)
          case atStart => exact ⟨0, Nat.zero_le _, rfl, by simp, HW.out⟩
          case round =>
            clear r0 hlr
            obtain ⟨m, hm, rfl, hno, hb⟩ := hrel
            have HNM := Lib.hid hno
            have HWM := Lib.hid hb
            have HWW := Lib.hid (HB1.out.trans (hb.mono HB1.out.size))
            obtain ⟨wp, rfl⟩ : ∃ wp : World, wp = wr := ⟨_, rfl⟩
            have hm0 : (0 : Int) ≤ (m : Int) := Int.natCast_nonneg _
            clear hno hb
            by_cases hlm : m < j
            · have hlm' : m < R.fs.length := by have := HLJ.out; omega
              have hq : R.fs[m]? = some R.fs[m] := List.getElem?_eq_getElem hlm'
              have hm1 : (m : Int) < (R.fs.length : Int) := by omega
              have hm2 : (m : Int) < (j : Int) := by omega
              have hm3 : (m : Int) < (R.fc : Int) := by omega
              have ht := take_any_succ R.fs (fun g => coveredL F.cs g.cs) m _ hq
              generalize R.fs[m] = G at *
              have HTS := Lib.hid ht
              have HG := Lib.hid hq
              have HPF := Lib.hid (fun W (h : Below wp.heap.size wp W) => (show IsPts W (.slice F.ca F.cs.length F.cc) F.cs ∧ IsPts W (.slice G.ca G.cs.length G.cc) G.cs from ⟨(HPF1.out j F HF.out W (HWM.out.trans (h.mono HWM.out.size))).2.1, (HPF1.out m G HG.out W (HWM.out.trans (h.mono HWM.out.size))).2.1⟩))
              have hmF := HPTS.out F (List.mem_of_getElem? HF.out)
              have hmG := HPTS.out G (List.mem_of_getElem? HG.out)
              have HLF := Lib.hid (show F.cs.length ≤ 1000 ∧ G.cs.length ≤ 1000 from ⟨hmF.2, hmG.2⟩)
              have HOF := Lib.hid (show okPts F.cs ∧ okPts G.cs from ⟨hmF.1, hmG.1⟩)
              have HX := Lib.hid (fun W (h : Below wp.heap.size wp W) => (show (fun w' : World => w'.cell? ⟨w.heap.size, 0, none⟩ = some (.slice (some ⟨fb, fo, none⟩) R.fs.length R.fc) ∧ w'.cell? ⟨fb, fo + j * 7, none⟩ = some (.string F.name) ∧ w'.cell? ⟨fb, fo + j * 7 + 1, none⟩ = some (.int .i64 F.side) ∧ w'.cell? ⟨fb, fo + j * 7 + 2, none⟩ = some (.int .i64 F.foot) ∧ w'.cell? ⟨fb, fo + j * 7 + 3, none⟩ = some (.int .i64 F.base) ∧ w'.cell? ⟨fb, fo + j * 7 + 4, none⟩ = some (.int .i64 F.rise) ∧ w'.cell? ⟨fb, fo + j * 7 + 5, none⟩ = some (.int .i64 F.run) ∧ w'.cell? ⟨fb, fo + j * 7 + 6, none⟩ = some (.slice F.ca F.cs.length F.cc) ∧ w'.cell? ⟨fb, fo + m * 7, none⟩ = some (.string G.name) ∧ w'.cell? ⟨fb, fo + m * 7 + 1, none⟩ = some (.int .i64 G.side) ∧ w'.cell? ⟨fb, fo + m * 7 + 2, none⟩ = some (.int .i64 G.foot) ∧ w'.cell? ⟨fb, fo + m * 7 + 3, none⟩ = some (.int .i64 G.base) ∧ w'.cell? ⟨fb, fo + m * 7 + 4, none⟩ = some (.int .i64 G.rise) ∧ w'.cell? ⟨fb, fo + m * 7 + 5, none⟩ = some (.int .i64 G.run) ∧ w'.cell? ⟨fb, fo + m * 7 + 6, none⟩ = some (.slice G.ca G.cs.length G.cc)) W from by
                have hb := HWM.out.trans (h.mono HWM.out.size)
                obtain ⟨a0, a1, a2, a3, a4, a5, a6⟩ := (HPF1.out j F HF.out W hb).1
                obtain ⟨b0, b1, b2, b3, b4, b5, b6⟩ := (HPF1.out m G HG.out W hb).1
                have r0 : W.cell? ⟨w.heap.size, 0, none⟩ = some (.slice (some ⟨fb, fo, none⟩) R.fs.length R.fc) := by rw [← HFA.out]; exact (K1.out.belowS hb).cell 0
                exact ⟨r0, a0, a1, a2, a3, a4, a5, a6, b0, b1, b2, b3, b4, b5, b6⟩))
              have HLM := Lib.hid hlm
              clear hq ht hmF hmG hlm hlm'
              have ha1 := fun W (h : Below wp.heap.size wp W) => refApart_any F G W (HPF.out W h).1 HLF.out.1 HOF.out.1 (HPF.out W h).2 HLF.out.2 HOF.out.2
              have ha2 := fun W (h : Below wp.heap.size wp W) => refApart_any G F W (HPF.out W h).2 HLF.out.2 HOF.out.2 (HPF.out W h).1 HLF.out.1 HOF.out.1
              have hco : coveredL F.cs G.cs = (!partedL F.cs G.cs && !partedL G.cs F.cs) := rfl
              obtain ⟨pa, hpa⟩ : ∃ pa, partedL F.cs G.cs = pa := ⟨_, rfl⟩
              obtain ⟨pb, hpb⟩ : ∃ pb, partedL G.cs F.cs = pb := ⟨_, rfl⟩
              simp only [hpa] at ha1
              simp only [hpb] at ha2
              rw [hpa, hpb] at hco
              have HA1 := Lib.hid ha1
              have HA2 := Lib.hid ha2
              have HCO := Lib.hid hco
              clear ha1 ha2 hco hpa hpb
              cases pa with
              | true =>
                go_upto_region 23 with fail
                refine wp_region_E 26 (fun w' => w'.cell? ⟨w.heap.size, 0, none⟩ = some (.slice (some ⟨fb, fo, none⟩) R.fs.length R.fc) ∧ w'.cell? ⟨fb, fo + j * 7, none⟩ = some (.string F.name) ∧ w'.cell? ⟨fb, fo + j * 7 + 1, none⟩ = some (.int .i64 F.side) ∧ w'.cell? ⟨fb, fo + j * 7 + 2, none⟩ = some (.int .i64 F.foot) ∧ w'.cell? ⟨fb, fo + j * 7 + 3, none⟩ = some (.int .i64 F.base) ∧ w'.cell? ⟨fb, fo + j * 7 + 4, none⟩ = some (.int .i64 F.rise) ∧ w'.cell? ⟨fb, fo + j * 7 + 5, none⟩ = some (.int .i64 F.run) ∧ w'.cell? ⟨fb, fo + j * 7 + 6, none⟩ = some (.slice F.ca F.cs.length F.cc) ∧ w'.cell? ⟨fb, fo + m * 7, none⟩ = some (.string G.name) ∧ w'.cell? ⟨fb, fo + m * 7 + 1, none⟩ = some (.int .i64 G.side) ∧ w'.cell? ⟨fb, fo + m * 7 + 2, none⟩ = some (.int .i64 G.foot) ∧ w'.cell? ⟨fb, fo + m * 7 + 3, none⟩ = some (.int .i64 G.base) ∧ w'.cell? ⟨fb, fo + m * 7 + 4, none⟩ = some (.int .i64 G.rise) ∧ w'.cell? ⟨fb, fo + m * 7 + 5, none⟩ = some (.int .i64 G.run) ∧ w'.cell? ⟨fb, fo + m * 7 + 6, none⟩ = some (.slice G.ca G.cs.length G.cc)) (by kernel_rfl) ?_
                have Bb0 := Lib.hid ((Below.refl wp.heap.size wp).drew)
                have hb0 := HX.out wp.drew Bb0.out
                refine E_takeR (i := 0) (oi := _) (v := ?v21) rfl (by kernel_rfl) (by kernel_rfl) (by kernel_rfl) (by decide) (fun _ _ _ h => h) hb0 (Or.inl ⟨by rfl, ?y21⟩) ?r21
                case y21 => (intro w' hSw; (try dsimp only at hSw); go_simp; try with_reducible rfl)
                try simp only [Act.put, List.getElem_toArray, List.getElem_cons_zero, List.getElem_cons_succ, List.setIfInBounds_toArray, List.set_cons_zero, List.set_cons_succ]
                refine E_takeR (i := 1) (oi := _) (v := ?v22) rfl (by kernel_rfl) (by kernel_rfl) (by kernel_rfl) (by decide) (fun _ _ _ h => h) hb0 (Or.inl ⟨by rfl, ?y22⟩) ?r22
                case y22 => (intro w' hSw; (try dsimp only at hSw); go_simp; try with_reducible rfl)
                try simp only [Act.put, List.getElem_toArray, List.getElem_cons_zero, List.getElem_cons_succ, List.setIfInBounds_toArray, List.set_cons_zero, List.set_cons_succ]
                refine E_takeR (i := 2) (oi := _) (v := ?v23) rfl (by kernel_rfl) (by kernel_rfl) (by kernel_rfl) (by decide) (fun _ _ _ h => h) hb0 (Or.inl ⟨by rfl, ?y23⟩) ?r23
                case y23 => (intro w' hSw; (try dsimp only at hSw); go_simp; try with_reducible rfl)
                try simp only [Act.put, List.getElem_toArray, List.getElem_cons_zero, List.getElem_cons_succ, List.setIfInBounds_toArray, List.set_cons_zero, List.set_cons_succ]
                refine E_takeR (i := 3) (oi := _) (v := ?v24) rfl (by kernel_rfl) (by kernel_rfl) (by kernel_rfl) (by decide) (fun _ _ _ h => h) hb0 (Or.inl ⟨by rfl, ?y24⟩) ?r24
                case y24 => (intro w' hSw; (try dsimp only at hSw); go_simp; try with_reducible rfl)
                try simp only [Act.put, List.getElem_toArray, List.getElem_cons_zero, List.getElem_cons_succ, List.setIfInBounds_toArray, List.set_cons_zero, List.set_cons_succ]
                refine E_takeR (i := 4) (oi := _) (v := ?v25) rfl (by kernel_rfl) (by kernel_rfl) (by kernel_rfl) (by decide) (fun _ _ _ h => h) hb0 (Or.inl ⟨by rfl, ?y25⟩) ?r25
                case y25 => (intro w' hSw; (try dsimp only at hSw); go_simp; try with_reducible rfl)
                try simp only [Act.put, List.getElem_toArray, List.getElem_cons_zero, List.getElem_cons_succ, List.setIfInBounds_toArray, List.set_cons_zero, List.set_cons_succ]
                refine E_takeR (i := 5) (oi := _) (v := ?v26) rfl (by kernel_rfl) (by kernel_rfl) (by kernel_rfl) (by decide) (fun _ _ _ h => h) hb0 (Or.inl ⟨by rfl, ?y26⟩) ?r26
                case y26 => (intro w' hSw; (try dsimp only at hSw); go_simp; try with_reducible rfl)
                try simp only [Act.put, List.getElem_toArray, List.getElem_cons_zero, List.getElem_cons_succ, List.setIfInBounds_toArray, List.set_cons_zero, List.set_cons_succ]
                refine E_takeR (i := 6) (oi := _) (v := ?v27) rfl (by kernel_rfl) (by kernel_rfl) (by kernel_rfl) (by decide) (fun _ _ _ h => h) hb0 (Or.inl ⟨by rfl, ?y27⟩) ?r27
                case y27 => (intro w' hSw; (try dsimp only at hSw); go_simp; try with_reducible rfl)
                try simp only [Act.put, List.getElem_toArray, List.getElem_cons_zero, List.getElem_cons_succ, List.setIfInBounds_toArray, List.set_cons_zero, List.set_cons_succ]
                refine E_takeR (i := 7) (oi := _) (v := ?v28) rfl (by kernel_rfl) (by kernel_rfl) (by kernel_rfl) (by decide) (fun _ _ _ h => h) hb0 (Or.inl ⟨by rfl, ?y28⟩) ?r28
                case y28 => (intro w' hSw; (try dsimp only at hSw); go_simp; try with_reducible rfl)
                try simp only [Act.put, List.getElem_toArray, List.getElem_cons_zero, List.getElem_cons_succ, List.setIfInBounds_toArray, List.set_cons_zero, List.set_cons_succ]
                refine E_takeR (i := 8) (oi := _) (v := ?v29) rfl (by kernel_rfl) (by kernel_rfl) (by kernel_rfl) (by decide) (fun _ _ _ h => h) hb0 (Or.inl ⟨by rfl, ?y29⟩) ?r29
                case y29 => (intro w' hSw; (try dsimp only at hSw); go_simp; try with_reducible rfl)
                try simp only [Act.put, List.getElem_toArray, List.getElem_cons_zero, List.getElem_cons_succ, List.setIfInBounds_toArray, List.set_cons_zero, List.set_cons_succ]
                refine E_takeR (i := 9) (oi := _) (v := ?v30) rfl (by kernel_rfl) (by kernel_rfl) (by kernel_rfl) (by decide) (fun _ _ _ h => h) hb0 (Or.inl ⟨by rfl, ?y30⟩) ?r30
                case y30 => (intro w' hSw; (try dsimp only at hSw); go_simp; try with_reducible rfl)
                try simp only [Act.put, List.getElem_toArray, List.getElem_cons_zero, List.getElem_cons_succ, List.setIfInBounds_toArray, List.set_cons_zero, List.set_cons_succ]
                refine E_step (i := 10) (o := _) (by kernel_rfl) rfl (fun K hK => ?_)
                go_simp
                refine (HA1.out wp.drew Bb0.out).mono ?_
                rintro e wb1 ⟨rfl, hbb1⟩
                dsimp only
                have Bwb1 := Lib.hid (Bb0.out.trans (hbb1.mono Bb0.out.size))
                have hwb1 := HX.out wb1 Bwb1.out
                refine hK.out _ _ (fun h => hwb1) ?_
                clear hK K hbb1
                try simp only [Act.put, List.getElem_toArray, List.getElem_cons_zero, List.getElem_cons_succ, List.setIfInBounds_toArray, List.set_cons_zero, List.set_cons_succ]
                refine E_step (i := 11) (o := _) (by kernel_rfl) rfl (fun K hK => ?_)
                go_simp
                refine hK.out _ _ (fun h => hwb1) ?_
                clear hK K
                try simp only [Act.put, List.getElem_toArray, List.getElem_cons_zero, List.getElem_cons_succ, List.setIfInBounds_toArray, List.set_cons_zero, List.set_cons_succ]
                refine E_step (i := 12) (o := _) (by kernel_rfl) rfl (fun K hK => ?_)
                go_simp
                refine hK.out _ _ (fun h => hwb1) ?_
                clear hK K
                try simp only [Act.put, List.getElem_toArray, List.getElem_cons_zero, List.getElem_cons_succ, List.setIfInBounds_toArray, List.set_cons_zero, List.set_cons_succ]
                refine E_takeR (i := 13) (oi := _) (v := undef) rfl (by kernel_rfl) (by kernel_rfl) (by kernel_rfl) (by decide) (fun _ _ _ h => h) hwb1 (Or.inr ⟨by rfl, rfl⟩) ?_
                try simp only [Act.put, List.getElem_toArray, List.getElem_cons_zero, List.getElem_cons_succ, List.setIfInBounds_toArray, List.set_cons_zero, List.set_cons_succ]
                refine E_takeR (i := 14) (oi := _) (v := undef) rfl (by kernel_rfl) (by kernel_rfl) (by kernel_rfl) (by decide) (fun _ _ _ h => h) hwb1 (Or.inr ⟨by rfl, rfl⟩) ?_
                try simp only [Act.put, List.getElem_toArray, List.getElem_cons_zero, List.getElem_cons_succ, List.setIfInBounds_toArray, List.set_cons_zero, List.set_cons_succ]
                refine E_takeR (i := 15) (oi := _) (v := undef) rfl (by kernel_rfl) (by kernel_rfl) (by kernel_rfl) (by decide) (fun _ _ _ h => h) hwb1 (Or.inr ⟨by rfl, rfl⟩) ?_
                try simp only [Act.put, List.getElem_toArray, List.getElem_cons_zero, List.getElem_cons_succ, List.setIfInBounds_toArray, List.set_cons_zero, List.set_cons_succ]
                refine E_takeR (i := 16) (oi := _) (v := undef) rfl (by kernel_rfl) (by kernel_rfl) (by kernel_rfl) (by decide) (fun _ _ _ h => h) hwb1 (Or.inr ⟨by rfl, rfl⟩) ?_
                try simp only [Act.put, List.getElem_toArray, List.getElem_cons_zero, List.getElem_cons_succ, List.setIfInBounds_toArray, List.set_cons_zero, List.set_cons_succ]
                refine E_takeR (i := 17) (oi := _) (v := undef) rfl (by kernel_rfl) (by kernel_rfl) (by kernel_rfl) (by decide) (fun _ _ _ h => h) hwb1 (Or.inr ⟨by rfl, rfl⟩) ?_
                try simp only [Act.put, List.getElem_toArray, List.getElem_cons_zero, List.getElem_cons_succ, List.setIfInBounds_toArray, List.set_cons_zero, List.set_cons_succ]
                refine E_takeR (i := 18) (oi := _) (v := undef) rfl (by kernel_rfl) (by kernel_rfl) (by kernel_rfl) (by decide) (fun _ _ _ h => h) hwb1 (Or.inr ⟨by rfl, rfl⟩) ?_
                try simp only [Act.put, List.getElem_toArray, List.getElem_cons_zero, List.getElem_cons_succ, List.setIfInBounds_toArray, List.set_cons_zero, List.set_cons_succ]
                refine E_takeR (i := 19) (oi := _) (v := undef) rfl (by kernel_rfl) (by kernel_rfl) (by kernel_rfl) (by decide) (fun _ _ _ h => h) hwb1 (Or.inr ⟨by rfl, rfl⟩) ?_
                try simp only [Act.put, List.getElem_toArray, List.getElem_cons_zero, List.getElem_cons_succ, List.setIfInBounds_toArray, List.set_cons_zero, List.set_cons_succ]
                refine E_takeR (i := 20) (oi := _) (v := undef) rfl (by kernel_rfl) (by kernel_rfl) (by kernel_rfl) (by decide) (fun _ _ _ h => h) hwb1 (Or.inr ⟨by rfl, rfl⟩) ?_
                try simp only [Act.put, List.getElem_toArray, List.getElem_cons_zero, List.getElem_cons_succ, List.setIfInBounds_toArray, List.set_cons_zero, List.set_cons_succ]
                refine E_takeR (i := 21) (oi := _) (v := undef) rfl (by kernel_rfl) (by kernel_rfl) (by kernel_rfl) (by decide) (fun _ _ _ h => h) hwb1 (Or.inr ⟨by rfl, rfl⟩) ?_
                try simp only [Act.put, List.getElem_toArray, List.getElem_cons_zero, List.getElem_cons_succ, List.setIfInBounds_toArray, List.set_cons_zero, List.set_cons_succ]
                refine E_takeR (i := 22) (oi := _) (v := undef) rfl (by kernel_rfl) (by kernel_rfl) (by kernel_rfl) (by decide) (fun _ _ _ h => h) hwb1 (Or.inr ⟨by rfl, rfl⟩) ?_
                try simp only [Act.put, List.getElem_toArray, List.getElem_cons_zero, List.getElem_cons_succ, List.setIfInBounds_toArray, List.set_cons_zero, List.set_cons_succ]
                refine E_step (i := 23) (o := _) (by kernel_rfl) rfl (fun K hK => ?_)
                go_simp
                refine hK.out _ _ (fun h => hwb1) ?_
                clear hK K
                try simp only [Act.put, List.getElem_toArray, List.getElem_cons_zero, List.getElem_cons_succ, List.setIfInBounds_toArray, List.set_cons_zero, List.set_cons_succ]
                refine E_step (i := 24) (o := _) (by kernel_rfl) rfl (fun K hK => ?_)
                go_simp
                refine hK.out _ _ (fun h => hwb1) ?_
                clear hK K
                try simp only [Act.put, List.getElem_toArray, List.getElem_cons_zero, List.getElem_cons_succ, List.setIfInBounds_toArray, List.set_cons_zero, List.set_cons_succ]
                refine E_step (i := 25) (o := _) (by kernel_rfl) rfl (fun K hK => ?_)
                go_simp
                refine hK.out _ _ (fun h => hwb1) ?_
                clear hK K
                try simp only [Act.put, List.getElem_toArray, List.getElem_cons_zero, List.getElem_cons_succ, List.setIfInBounds_toArray, List.set_cons_zero, List.set_cons_succ]
                refine E_done (by kernel_rfl) ?_ _
                clear hb0 hwb1
                have HBN := Lib.hid (HWM.out.trans (Bwb1.out.mono HWM.out.size))
                go_wp2_with fail
                refine ⟨⟨m + 1, by have := HLM.out; omega, by simp, ?_, HBN.out⟩, by have := HLM.out; simp [intOf]; omega⟩
                rw [HTS.out, HNM.out, HCO.out]
                rfl
              | false =>
                go_upto_region 23 with fail
                refine wp_region_E 26 (fun w' => w'.cell? ⟨w.heap.size, 0, none⟩ = some (.slice (some ⟨fb, fo, none⟩) R.fs.length R.fc) ∧ w'.cell? ⟨fb, fo + j * 7, none⟩ = some (.string F.name) ∧ w'.cell? ⟨fb, fo + j * 7 + 1, none⟩ = some (.int .i64 F.side) ∧ w'.cell? ⟨fb, fo + j * 7 + 2, none⟩ = some (.int .i64 F.foot) ∧ w'.cell? ⟨fb, fo + j * 7 + 3, none⟩ = some (.int .i64 F.base) ∧ w'.cell? ⟨fb, fo + j * 7 + 4, none⟩ = some (.int .i64 F.rise) ∧ w'.cell? ⟨fb, fo + j * 7 + 5, none⟩ = some (.int .i64 F.run) ∧ w'.cell? ⟨fb, fo + j * 7 + 6, none⟩ = some (.slice F.ca F.cs.length F.cc) ∧ w'.cell? ⟨fb, fo + m * 7, none⟩ = some (.string G.name) ∧ w'.cell? ⟨fb, fo + m * 7 + 1, none⟩ = some (.int .i64 G.side) ∧ w'.cell? ⟨fb, fo + m * 7 + 2, none⟩ = some (.int .i64 G.foot) ∧ w'.cell? ⟨fb, fo + m * 7 + 3, none⟩ = some (.int .i64 G.base) ∧ w'.cell? ⟨fb, fo + m * 7 + 4, none⟩ = some (.int .i64 G.rise) ∧ w'.cell? ⟨fb, fo + m * 7 + 5, none⟩ = some (.int .i64 G.run) ∧ w'.cell? ⟨fb, fo + m * 7 + 6, none⟩ = some (.slice G.ca G.cs.length G.cc)) (by kernel_rfl) ?_
                have Ba0 := Lib.hid ((Below.refl wp.heap.size wp).drew)
                have ha0 := HX.out wp.drew Ba0.out
                refine E_takeR (i := 0) (oi := _) (v := ?v1) rfl (by kernel_rfl) (by kernel_rfl) (by kernel_rfl) (by decide) (fun _ _ _ h => h) ha0 (Or.inl ⟨by rfl, ?y1⟩) ?r1
                case y1 => (intro w' hSw; (try dsimp only at hSw); go_simp; try with_reducible rfl)
                try simp only [Act.put, List.getElem_toArray, List.getElem_cons_zero, List.getElem_cons_succ, List.setIfInBounds_toArray, List.set_cons_zero, List.set_cons_succ]
                refine E_takeR (i := 1) (oi := _) (v := ?v2) rfl (by kernel_rfl) (by kernel_rfl) (by kernel_rfl) (by decide) (fun _ _ _ h => h) ha0 (Or.inl ⟨by rfl, ?y2⟩) ?r2
                case y2 => (intro w' hSw; (try dsimp only at hSw); go_simp; try with_reducible rfl)
                try simp only [Act.put, List.getElem_toArray, List.getElem_cons_zero, List.getElem_cons_succ, List.setIfInBounds_toArray, List.set_cons_zero, List.set_cons_succ]
                refine E_takeR (i := 2) (oi := _) (v := ?v3) rfl (by kernel_rfl) (by kernel_rfl) (by kernel_rfl) (by decide) (fun _ _ _ h => h) ha0 (Or.inl ⟨by rfl, ?y3⟩) ?r3
                case y3 => (intro w' hSw; (try dsimp only at hSw); go_simp; try with_reducible rfl)
                try simp only [Act.put, List.getElem_toArray, List.getElem_cons_zero, List.getElem_cons_succ, List.setIfInBounds_toArray, List.set_cons_zero, List.set_cons_succ]
                refine E_takeR (i := 3) (oi := _) (v := ?v4) rfl (by kernel_rfl) (by kernel_rfl) (by kernel_rfl) (by decide) (fun _ _ _ h => h) ha0 (Or.inl ⟨by rfl, ?y4⟩) ?r4
                case y4 => (intro w' hSw; (try dsimp only at hSw); go_simp; try with_reducible rfl)
                try simp only [Act.put, List.getElem_toArray, List.getElem_cons_zero, List.getElem_cons_succ, List.setIfInBounds_toArray, List.set_cons_zero, List.set_cons_succ]
                refine E_takeR (i := 4) (oi := _) (v := ?v5) rfl (by kernel_rfl) (by kernel_rfl) (by kernel_rfl) (by decide) (fun _ _ _ h => h) ha0 (Or.inl ⟨by rfl, ?y5⟩) ?r5
                case y5 => (intro w' hSw; (try dsimp only at hSw); go_simp; try with_reducible rfl)
                try simp only [Act.put, List.getElem_toArray, List.getElem_cons_zero, List.getElem_cons_succ, List.setIfInBounds_toArray, List.set_cons_zero, List.set_cons_succ]
                refine E_takeR (i := 5) (oi := _) (v := ?v6) rfl (by kernel_rfl) (by kernel_rfl) (by kernel_rfl) (by decide) (fun _ _ _ h => h) ha0 (Or.inl ⟨by rfl, ?y6⟩) ?r6
                case y6 => (intro w' hSw; (try dsimp only at hSw); go_simp; try with_reducible rfl)
                try simp only [Act.put, List.getElem_toArray, List.getElem_cons_zero, List.getElem_cons_succ, List.setIfInBounds_toArray, List.set_cons_zero, List.set_cons_succ]
                refine E_takeR (i := 6) (oi := _) (v := ?v7) rfl (by kernel_rfl) (by kernel_rfl) (by kernel_rfl) (by decide) (fun _ _ _ h => h) ha0 (Or.inl ⟨by rfl, ?y7⟩) ?r7
                case y7 => (intro w' hSw; (try dsimp only at hSw); go_simp; try with_reducible rfl)
                try simp only [Act.put, List.getElem_toArray, List.getElem_cons_zero, List.getElem_cons_succ, List.setIfInBounds_toArray, List.set_cons_zero, List.set_cons_succ]
                refine E_takeR (i := 7) (oi := _) (v := ?v8) rfl (by kernel_rfl) (by kernel_rfl) (by kernel_rfl) (by decide) (fun _ _ _ h => h) ha0 (Or.inl ⟨by rfl, ?y8⟩) ?r8
                case y8 => (intro w' hSw; (try dsimp only at hSw); go_simp; try with_reducible rfl)
                try simp only [Act.put, List.getElem_toArray, List.getElem_cons_zero, List.getElem_cons_succ, List.setIfInBounds_toArray, List.set_cons_zero, List.set_cons_succ]
                refine E_takeR (i := 8) (oi := _) (v := ?v9) rfl (by kernel_rfl) (by kernel_rfl) (by kernel_rfl) (by decide) (fun _ _ _ h => h) ha0 (Or.inl ⟨by rfl, ?y9⟩) ?r9
                case y9 => (intro w' hSw; (try dsimp only at hSw); go_simp; try with_reducible rfl)
                try simp only [Act.put, List.getElem_toArray, List.getElem_cons_zero, List.getElem_cons_succ, List.setIfInBounds_toArray, List.set_cons_zero, List.set_cons_succ]
                refine E_takeR (i := 9) (oi := _) (v := ?v10) rfl (by kernel_rfl) (by kernel_rfl) (by kernel_rfl) (by decide) (fun _ _ _ h => h) ha0 (Or.inl ⟨by rfl, ?y10⟩) ?r10
                case y10 => (intro w' hSw; (try dsimp only at hSw); go_simp; try with_reducible rfl)
                try simp only [Act.put, List.getElem_toArray, List.getElem_cons_zero, List.getElem_cons_succ, List.setIfInBounds_toArray, List.set_cons_zero, List.set_cons_succ]
                refine E_step (i := 10) (o := _) (by kernel_rfl) rfl (fun K hK => ?_)
                go_simp
                refine (HA1.out wp.drew Ba0.out).mono ?_
                rintro e wa1 ⟨rfl, hba1⟩
                dsimp only
                have Bwa1 := Lib.hid (Ba0.out.trans (hba1.mono Ba0.out.size))
                have hwa1 := HX.out wa1 Bwa1.out
                refine hK.out _ _ (fun h => hwa1) ?_
                clear hK K hba1
                try simp only [Act.put, List.getElem_toArray, List.getElem_cons_zero, List.getElem_cons_succ, List.setIfInBounds_toArray, List.set_cons_zero, List.set_cons_succ]
                refine E_step (i := 11) (o := _) (by kernel_rfl) rfl (fun K hK => ?_)
                go_simp
                refine hK.out _ _ (fun h => hwa1) ?_
                clear hK K
                try simp only [Act.put, List.getElem_toArray, List.getElem_cons_zero, List.getElem_cons_succ, List.setIfInBounds_toArray, List.set_cons_zero, List.set_cons_succ]
                refine E_step (i := 12) (o := _) (by kernel_rfl) rfl (fun K hK => ?_)
                go_simp
                refine hK.out _ _ (fun h => hwa1) ?_
                clear hK K
                try simp only [Act.put, List.getElem_toArray, List.getElem_cons_zero, List.getElem_cons_succ, List.setIfInBounds_toArray, List.set_cons_zero, List.set_cons_succ]
                refine E_takeR (i := 13) (oi := _) (v := ?v11) rfl (by kernel_rfl) (by kernel_rfl) (by kernel_rfl) (by decide) (fun _ _ _ h => h) hwa1 (Or.inl ⟨by rfl, ?y11⟩) ?r11
                case y11 => (intro w' hSw; (try dsimp only at hSw); go_simp; try with_reducible rfl)
                try simp only [Act.put, List.getElem_toArray, List.getElem_cons_zero, List.getElem_cons_succ, List.setIfInBounds_toArray, List.set_cons_zero, List.set_cons_succ]
                refine E_takeR (i := 14) (oi := _) (v := ?v12) rfl (by kernel_rfl) (by kernel_rfl) (by kernel_rfl) (by decide) (fun _ _ _ h => h) hwa1 (Or.inl ⟨by rfl, ?y12⟩) ?r12
                case y12 => (intro w' hSw; (try dsimp only at hSw); go_simp; try with_reducible rfl)
                try simp only [Act.put, List.getElem_toArray, List.getElem_cons_zero, List.getElem_cons_succ, List.setIfInBounds_toArray, List.set_cons_zero, List.set_cons_succ]
                refine E_takeR (i := 15) (oi := _) (v := ?v13) rfl (by kernel_rfl) (by kernel_rfl) (by kernel_rfl) (by decide) (fun _ _ _ h => h) hwa1 (Or.inl ⟨by rfl, ?y13⟩) ?r13
                case y13 => (intro w' hSw; (try dsimp only at hSw); go_simp; try with_reducible rfl)
                try simp only [Act.put, List.getElem_toArray, List.getElem_cons_zero, List.getElem_cons_succ, List.setIfInBounds_toArray, List.set_cons_zero, List.set_cons_succ]
                refine E_takeR (i := 16) (oi := _) (v := ?v14) rfl (by kernel_rfl) (by kernel_rfl) (by kernel_rfl) (by decide) (fun _ _ _ h => h) hwa1 (Or.inl ⟨by rfl, ?y14⟩) ?r14
                case y14 => (intro w' hSw; (try dsimp only at hSw); go_simp; try with_reducible rfl)
                try simp only [Act.put, List.getElem_toArray, List.getElem_cons_zero, List.getElem_cons_succ, List.setIfInBounds_toArray, List.set_cons_zero, List.set_cons_succ]
                refine E_takeR (i := 17) (oi := _) (v := ?v15) rfl (by kernel_rfl) (by kernel_rfl) (by kernel_rfl) (by decide) (fun _ _ _ h => h) hwa1 (Or.inl ⟨by rfl, ?y15⟩) ?r15
                case y15 => (intro w' hSw; (try dsimp only at hSw); go_simp; try with_reducible rfl)
                try simp only [Act.put, List.getElem_toArray, List.getElem_cons_zero, List.getElem_cons_succ, List.setIfInBounds_toArray, List.set_cons_zero, List.set_cons_succ]
                refine E_takeR (i := 18) (oi := _) (v := ?v16) rfl (by kernel_rfl) (by kernel_rfl) (by kernel_rfl) (by decide) (fun _ _ _ h => h) hwa1 (Or.inl ⟨by rfl, ?y16⟩) ?r16
                case y16 => (intro w' hSw; (try dsimp only at hSw); go_simp; try with_reducible rfl)
                try simp only [Act.put, List.getElem_toArray, List.getElem_cons_zero, List.getElem_cons_succ, List.setIfInBounds_toArray, List.set_cons_zero, List.set_cons_succ]
                refine E_takeR (i := 19) (oi := _) (v := ?v17) rfl (by kernel_rfl) (by kernel_rfl) (by kernel_rfl) (by decide) (fun _ _ _ h => h) hwa1 (Or.inl ⟨by rfl, ?y17⟩) ?r17
                case y17 => (intro w' hSw; (try dsimp only at hSw); go_simp; try with_reducible rfl)
                try simp only [Act.put, List.getElem_toArray, List.getElem_cons_zero, List.getElem_cons_succ, List.setIfInBounds_toArray, List.set_cons_zero, List.set_cons_succ]
                refine E_takeR (i := 20) (oi := _) (v := ?v18) rfl (by kernel_rfl) (by kernel_rfl) (by kernel_rfl) (by decide) (fun _ _ _ h => h) hwa1 (Or.inl ⟨by rfl, ?y18⟩) ?r18
                case y18 => (intro w' hSw; (try dsimp only at hSw); go_simp; try with_reducible rfl)
                try simp only [Act.put, List.getElem_toArray, List.getElem_cons_zero, List.getElem_cons_succ, List.setIfInBounds_toArray, List.set_cons_zero, List.set_cons_succ]
                refine E_takeR (i := 21) (oi := _) (v := ?v19) rfl (by kernel_rfl) (by kernel_rfl) (by kernel_rfl) (by decide) (fun _ _ _ h => h) hwa1 (Or.inl ⟨by rfl, ?y19⟩) ?r19
                case y19 => (intro w' hSw; (try dsimp only at hSw); go_simp; try with_reducible rfl)
                try simp only [Act.put, List.getElem_toArray, List.getElem_cons_zero, List.getElem_cons_succ, List.setIfInBounds_toArray, List.set_cons_zero, List.set_cons_succ]
                refine E_takeR (i := 22) (oi := _) (v := ?v20) rfl (by kernel_rfl) (by kernel_rfl) (by kernel_rfl) (by decide) (fun _ _ _ h => h) hwa1 (Or.inl ⟨by rfl, ?y20⟩) ?r20
                case y20 => (intro w' hSw; (try dsimp only at hSw); go_simp; try with_reducible rfl)
                try simp only [Act.put, List.getElem_toArray, List.getElem_cons_zero, List.getElem_cons_succ, List.setIfInBounds_toArray, List.set_cons_zero, List.set_cons_succ]
                refine E_step (i := 23) (o := _) (by kernel_rfl) rfl (fun K hK => ?_)
                go_simp
                refine (HA2.out wa1 Bwa1.out).mono ?_
                rintro e wa2 ⟨rfl, hba2⟩
                dsimp only
                have Bwa2 := Lib.hid (Bwa1.out.trans (hba2.mono Bwa1.out.size))
                have hwa2 := HX.out wa2 Bwa2.out
                refine hK.out _ _ (fun h => hwa2) ?_
                clear hK K hba2
                try simp only [Act.put, List.getElem_toArray, List.getElem_cons_zero, List.getElem_cons_succ, List.setIfInBounds_toArray, List.set_cons_zero, List.set_cons_succ]
                refine E_step (i := 24) (o := _) (by kernel_rfl) rfl (fun K hK => ?_)
                go_simp
                refine hK.out _ _ (fun h => hwa2) ?_
                clear hK K
                try simp only [Act.put, List.getElem_toArray, List.getElem_cons_zero, List.getElem_cons_succ, List.setIfInBounds_toArray, List.set_cons_zero, List.set_cons_succ]
                refine E_step (i := 25) (o := _) (by kernel_rfl) rfl (fun K hK => ?_)
                go_simp
                refine hK.out _ _ (fun h => hwa2) ?_
                clear hK K
                try simp only [Act.put, List.getElem_toArray, List.getElem_cons_zero, List.getElem_cons_succ, List.setIfInBounds_toArray, List.set_cons_zero, List.set_cons_succ]
                refine E_done (by kernel_rfl) ?_ _
                clear ha0 hwa1 hwa2
                have HBN := Lib.hid (HWM.out.trans (Bwa2.out.mono HWM.out.size))
                have HBNW := Lib.hid (HWW.out.trans (Bwa2.out.mono HWW.out.size))
                cases pb with
                | true =>
                  go_wp2_with fail
                  refine ⟨⟨m + 1, by have := HLM.out; omega, by simp, ?_, HBN.out⟩, by have := HLM.out; simp [intOf]; omega⟩
                  rw [HTS.out, HNM.out, HCO.out]
                  rfl
                | false =>
                  have HV := Lib.hid (show checkE R = 10 by
                    rw [HTO.out, togetherE, if_pos (show coverF R.fs = true from pairF_true HF.out HG.out HLM.out HCO.out)])
                  go_wp2_with fail
                  go_ret
                  exact ⟨by rw [HV.out]; try rfl, HBNW.out⟩
            obtain rfl : m = j := by omega
            have hmm : ¬ (m : Int) < (m : Int) := by omega
            go_wp2_with fail
            refine ⟨⟨m + 1, by have := HLJ.out; omega, by simp, ?_, HWM.out⟩, by have := HLJ.out; simp [intOf]; omega⟩
            intro k f hk hf
            by_cases hkm : k = m
            · subst hkm
              obtain rfl : f = F := Option.some.inj (hf.symm.trans HF.out)
              exact HNM.out
            · exact HNO.out k f (by omega) hf
        obtain rfl : j = R.fs.length := by omega
        have hjj : ¬ (R.fs.length : Int) < (R.fs.length : Int) := by omega
        have HCV := Lib.hid (show coverF R.fs = false from pairF_false (fun k f hk hf => HNO.out k f hk hf))
        clear HNO
        go_wp2_with fail
        go_loopw [9, 10, 11, 12, 13, 14, 15, 16] (fun s _ _ _ _ _ _ _ wv => ∃ j : Nat, j ≤ R.fs.length ∧ s = .int .i64 j ∧ (∀ k f, k < j → R.fs[k]? = some f → ((R.fs.take k).any fun g => edgesOverL f.cs g.cs) = false) ∧ Below w1.heap.size w1 wv) (fun s _ _ _ _ _ _ _ _ => R.fs.length - (intOf s).toNat)
        case atStart => exact ⟨0, Nat.zero_le _, rfl, fun k f h => by omega, HW.out⟩
        case round =>
          clear r0 hlr HW hjj hj hj0
          obtain ⟨j, hj, rfl, hno, hb⟩ := hrel
          have HNO := Lib.hid hno
          have HW := Lib.hid hb
          have HWW := Lib.hid (HB1.out.trans (hb.mono HB1.out.size))
          obtain ⟨wp, rfl⟩ : ∃ wp : World, wp = wr := ⟨_, rfl⟩
          have hlr := (K1.out.belowS hb).lt
          have r0 : wp.cell? ⟨w.heap.size, 0, none⟩ = some (.slice R.fa R.fs.length R.fc) := (K1.out.belowS hb).cell 0
          have hj0 : (0 : Int) ≤ (j : Int) := Int.natCast_nonneg _
          clear hno hb
          by_cases hlj : j < R.fs.length
          · have hq : R.fs[j]? = some R.fs[j] := List.getElem?_eq_getElem hlj
            have hj1 : (j : Int) < (R.fs.length : Int) := by omega
            obtain ⟨fb, fo, hfa, hfb, hfc, hfc2, hfp⟩ := fac_of HR1.out hq
            have HPF1 := Lib.hid (fun k f (h : R.fs[k]? = some f) W (hb : Below w1.heap.size w1 W) => (show FacAt W fb (fo + k * 7) f ∧ FacIn W f from ⟨(hfp k f h).1.below hb hfb, (hfp k f h).2.below hb⟩))
            have hfc3 : (j : Int) < (R.fc : Int) := by omega
            generalize R.fs[j] = F at *
            have HF := Lib.hid hq
            rw [hfa] at r0
            have HFA := Lib.hid hfa
            have HLJ := Lib.hid hlj
            have HFBL := Lib.hid hfb
            have hmF := HPTS.out F (List.mem_of_getElem? hq)
            have hlF : (F.cs.length : Int) ≤ 1000 := by omega
            have HOF := Lib.hid hmF.1
            clear hq hfp hfa hfb hlj hmF
            go_wp2_with fail
            obtain ⟨wq, rfl⟩ : ∃ w0 : World, w0 = wp := ⟨_, rfl⟩
            go_loopw [10, 11, 12, 13, 14, 15, 16] (fun s _ _ _ _ _ _ wv => ∃ m : Nat, m ≤ j ∧ s = .int .i64 m ∧ ((R.fs.take m).any fun g => edgesOverL F.cs g.cs) = false ∧ Below w1.heap.size w1 wv) (fun s _ _ _ _ _ _ _ => j - (intOf s).toNat)
            case atStart => exact ⟨0, Nat.zero_le _, rfl, by simp, HW.out⟩
            case round =>
              clear r0 hlr HW HWW
              obtain ⟨m, hm, rfl, hno, hb⟩ := hrel
              have HNM := Lib.hid hno
              have HWM := Lib.hid hb
              obtain ⟨wp, rfl⟩ : ∃ wp : World, wp = wr := ⟨_, rfl⟩
              have hm0 : (0 : Int) ≤ (m : Int) := Int.natCast_nonneg _
              clear hno hb
              by_cases hlm : m < j
              · have hlm' : m < R.fs.length := by have := HLJ.out; omega
                have hq : R.fs[m]? = some R.fs[m] := List.getElem?_eq_getElem hlm'
                have hm1 : (m : Int) < (R.fs.length : Int) := by omega
                have hm2 : (m : Int) < (j : Int) := by omega
                have hm3 : (m : Int) < (R.fc : Int) := by omega
                have ht := take_any_succ R.fs (fun g => edgesOverL F.cs g.cs) m _ hq
                generalize R.fs[m] = G at *
                have HTS := Lib.hid ht
                have HG := Lib.hid hq
                have hmG := HPTS.out G (List.mem_of_getElem? hq)
                have hlG : (G.cs.length : Int) ≤ 1000 := by omega
                have HOG := Lib.hid hmG.1
                have HLM := Lib.hid hlm
                clear hq ht hmG hlm hlm'
                go_wp2_with fail
                obtain ⟨wq, rfl⟩ : ∃ w0 : World, w0 = wp := ⟨_, rfl⟩
                go_loopw [11, 12, 13, 14, 15, 16] (fun s _ _ _ _ _ wv => ∃ k : Nat, k ≤ F.cs.length ∧ s = .int .i64 k ∧ (∀ k', k' < k → ∀ q, q < G.cs.length → clashB (edgN F.cs k') (edgN G.cs q) = false) ∧ Below w1.heap.size w1 wv) (fun s _ _ _ _ _ _ => F.cs.length - (intOf s).toNat)
                case atStart => exact ⟨0, Nat.zero_le _, rfl, fun k' h => by omega, HWM.out⟩
                case round =>
                  clear HWM
                  obtain ⟨k, hk, rfl, hno, hb⟩ := hrel
                  have HNK := Lib.hid hno
                  have HWK := Lib.hid hb
                  obtain ⟨wp, rfl⟩ : ∃ wp : World, wp = wr := ⟨_, rfl⟩
                  have hk0 : (0 : Int) ≤ (k : Int) := Int.natCast_nonneg _
                  have hlr := (K1.out.belowS hb).lt
                  have hlb : fb < wp.heap.size := Nat.lt_of_lt_of_le HFBL.out hb.size
                  have r0 : wp.cell? ⟨w.heap.size, 0, none⟩ = some (.slice (some ⟨fb, fo, none⟩) R.fs.length R.fc) := by rw [← HFA.out]; exact (K1.out.belowS hb).cell 0
                  obtain ⟨-, -, -, -, -, -, a6⟩ := (HPF1.out j F HF.out wp hb).1
                  clear hno hb
                  by_cases hlk : k < F.cs.length
                  · have hk1 : (k : Int) < (F.cs.length : Int) := by omega
                    have HLK := Lib.hid hlk
                    clear hlk
                    go_wp2_with fail
                    obtain ⟨wq, rfl⟩ : ∃ w0 : World, w0 = wp := ⟨_, rfl⟩
                    go_loopw [12, 13, 14, 15, 16] (fun s _ _ _ _ wv => ∃ q : Nat, q ≤ G.cs.length ∧ s = .int .i64 q ∧ (∀ q', q' < q → clashB (edgN F.cs k) (edgN G.cs q') = false) ∧ Below w1.heap.size w1 wv) (fun s _ _ _ _ _ => G.cs.length - (intOf s).toNat)
                    case atStart => exact ⟨0, Nat.zero_le _, rfl, fun q' h => by omega, HWK.out⟩
                    case round =>
                      clear HWK r0 a6 hlr hlb
                      obtain ⟨q, hq, rfl, hno, hb⟩ := hrel
                      have HNQ := Lib.hid hno
                      have HWQ := Lib.hid hb
                      obtain ⟨wp, rfl⟩ : ∃ wp : World, wp = wr := ⟨_, rfl⟩
                      have hq0 : (0 : Int) ≤ (q : Int) := Int.natCast_nonneg _
                      have hlr := (K1.out.belowS hb).lt
                      have hlb : fb < wp.heap.size := Nat.lt_of_lt_of_le HFBL.out hb.size
                      have r0 : wp.cell? ⟨w.heap.size, 0, none⟩ = some (.slice (some ⟨fb, fo, none⟩) R.fs.length R.fc) := by rw [← HFA.out]; exact (K1.out.belowS hb).cell 0
                      obtain ⟨-, -, -, -, -, -, b6⟩ := (HPF1.out m G HG.out wp hb).1
                      by_cases hlq : q < G.cs.length
                      · obtain ⟨a0, a1, a2, a3, a4, a5, a6⟩ := (HPF1.out j F HF.out wp hb).1
                        have hq1 : (q : Int) < (G.cs.length : Int) := by omega
                        have hmk : (k + 1) % F.cs.length < F.cs.length := Nat.mod_lt _ (by have := HLK.out; omega)
                        have hmq : (q + 1) % G.cs.length < G.cs.length := Nat.mod_lt _ (by omega)
                        have hcl : clashB (edgN F.cs k) (edgN G.cs q) = (alongX ⟨cor F.cs k, cor F.cs ((k + 1) % F.cs.length)⟩ ⟨cor G.cs q, cor G.cs ((q + 1) % G.cs.length)⟩ && !likeB ⟨cor F.cs k, cor F.cs ((k + 1) % F.cs.length)⟩ ⟨cor G.cs q, cor G.cs ((q + 1) % G.cs.length)⟩) := (like_clash (e := edgN F.cs k) (o := edgN G.cs q) (edge_ne (HOUT.out F (List.mem_of_getElem? HF.out)) HLK.out) (edge_ne (HOUT.out G (List.mem_of_getElem? HG.out)) hlq)).symm
                        have HEN1 := Lib.hid (refEnds_any F k wp (HPF1.out j F HF.out wp hb).2.1 (by omega) HLK.out)
                        have HEN2 := Lib.hid (fun W (h : Below wp.heap.size wp W) => refEnds_any G q W (HPF1.out m G HG.out W (HWQ.out.trans (h.mono HWQ.out.size))).2.1 (by omega) hlq)
                        have HP1 := Lib.hid (cor_ok HOF.out HLK.out)
                        have HP2 := Lib.hid (cor_ok HOF.out hmk)
                        have HP3 := Lib.hid (cor_ok HOG.out hlq)
                        have HP4 := Lib.hid (cor_ok HOG.out hmq)
                        generalize cor F.cs k = p1 at *
                        generalize cor F.cs ((k + 1) % F.cs.length) = p2 at *
                        generalize cor G.cs q = p3 at *
                        generalize cor G.cs ((q + 1) % G.cs.length) = p4 at *
                        have HCL := Lib.hid hcl
                        have HLQ := Lib.hid hlq
                        clear hcl hmk hmq hno hb hlq
                        go_wp2_with fail
                        refine HEN1.out.mono ?_
                        rintro e w3 ⟨rfl, hb3⟩
                        have HB3 := Lib.hid hb3
                        clear hb3 a0 a1 a2 a3 a4 a5 a6 b6 r0 hlr hlb HEN1
                        go_upto_region 38 with fail
                        have kP := (Blk.new w3 27 #[.int .i64 p1.x, .int .i64 p1.y]).alloc (.cells #[.int .i64 p2.x, .int .i64 p2.y] 27)
                        have kQ := Blk.new (w3.alloc (.cells #[.int .i64 p1.x, .int .i64 p1.y] 27)) 27 #[.int .i64 p2.x, .int .i64 p2.y]
                        have hbz : Below w3.heap.size w3 ((w3.alloc (.cells #[.int .i64 p1.x, .int .i64 p1.y] 27)).alloc (.cells #[.int .i64 p2.x, .int .i64 p2.y] 27)) := ((Below.refl _ _).alloc (Nat.le_refl _) _).alloc (by simp) _
                        rw [World.size_alloc] at kQ
                        generalize (w3.alloc (.cells #[.int .i64 p1.x, .int .i64 p1.y] 27)).alloc (.cells #[.int .i64 p2.x, .int .i64 p2.y] 27) = w6 at *
                        obtain ⟨BP, hBP⟩ : ∃ B, w3.heap.size = B := ⟨_, rfl⟩
                        have HB6 := Lib.hid (HB3.out.trans (hbz.mono HB3.out.size))
                        rw [hBP] at kP kQ ⊢
                        obtain ⟨BQ, hBQ⟩ : ∃ B, BP + 1 = B := ⟨_, rfl⟩
                        rw [hBQ] at kQ ⊢
                        have HKP := Lib.hid kP
                        have HKQ := Lib.hid kQ
                        clear hbz kP kQ hBP hBQ
                        have hb6 := HWQ.out.trans (HB6.out.mono HWQ.out.size)
                        have hlr := (K1.out.belowS hb6).lt
                        have hlb : fb < w6.heap.size := Nat.lt_of_lt_of_le HFBL.out hb6.size
                        have r0 : w6.cell? ⟨w.heap.size, 0, none⟩ = some (.slice (some ⟨fb, fo, none⟩) R.fs.length R.fc) := by rw [← HFA.out]; exact (K1.out.belowS hb6).cell 0
                        obtain ⟨b0, b1, b2, b3, b4, b5, b6⟩ := (HPF1.out m G HG.out w6 hb6).1
                        clear hb6
                        go_wp2_with fail
                        refine (HEN2.out w6 HB6.out).mono ?_
                        rintro e w7 ⟨rfl, hb7⟩
                        have HB7 := Lib.hid hb7
                        clear hb7 b0 b1 b2 b3 b4 b5 b6 r0 hlr hlb HEN2
                        go_upto_region 39 with fail
                        have kP := (Blk.new w7 27 #[.int .i64 p3.x, .int .i64 p3.y]).alloc (.cells #[.int .i64 p4.x, .int .i64 p4.y] 27)
                        have kQ := Blk.new (w7.alloc (.cells #[.int .i64 p3.x, .int .i64 p3.y] 27)) 27 #[.int .i64 p4.x, .int .i64 p4.y]
                        have hbz : Below w7.heap.size w7 ((w7.alloc (.cells #[.int .i64 p3.x, .int .i64 p3.y] 27)).alloc (.cells #[.int .i64 p4.x, .int .i64 p4.y] 27)) := ((Below.refl _ _).alloc (Nat.le_refl _) _).alloc (by simp) _
                        rw [World.size_alloc] at kQ
                        generalize (w7.alloc (.cells #[.int .i64 p3.x, .int .i64 p3.y] 27)).alloc (.cells #[.int .i64 p4.x, .int .i64 p4.y] 27) = w9 at *
                        obtain ⟨BR, hBP⟩ : ∃ B, w7.heap.size = B := ⟨_, rfl⟩
                        have HB9 := Lib.hid (HB7.out.trans (hbz.mono HB7.out.size))
                        rw [hBP] at kP kQ ⊢
                        obtain ⟨BS, hBQ⟩ : ∃ B, BR + 1 = B := ⟨_, rfl⟩
                        rw [hBQ] at kQ ⊢
                        have HB9A := Lib.hid (HWQ.out.trans ((HB6.out.trans (HB9.out.mono HB6.out.size)).mono HWQ.out.size))
                        have k1 := HKP.out.belowS HB9.out
                        have k2 := HKQ.out.belowS HB9.out
                        obtain ⟨x0, x1⟩ := And.intro (k1.cell 0) (k1.cell 1)
                        obtain ⟨y0, y1⟩ := And.intro (k2.cell 0) (k2.cell 1)
                        obtain ⟨z0, z1⟩ := And.intro (kP.cell 0) (kP.cell 1)
                        obtain ⟨v0, v1⟩ := And.intro (kQ.cell 0) (kQ.cell 1)
                        simp only [List.getElem?_toArray, List.getElem?_cons_zero, List.getElem?_cons_succ] at x0 x1 y0 y1 z0 z1 v0 v1
                        have lx := k1.lt
                        have ly := k2.lt
                        have lz := kP.lt
                        have lv := kQ.lt
                        have HK1 := Lib.hid k1
                        have HK2 := Lib.hid k2
                        have HK3 := Lib.hid kP
                        have HK4 := Lib.hid kQ
                        clear hbz kP kQ hBP hBQ k1 k2
                        go_wp2_with fail
                        refine (refAlong_any p1 p2 p3 p4 _ HP1.out HP2.out HP3.out HP4.out).mono ?_
                        rintro e wa ⟨rfl, hba⟩
                        have HBA := Lib.hid (HB9A.out.trans (hba.mono HB9A.out.size))
                        have HBAW := Lib.hid (HB1.out.trans (HBA.out.mono HB1.out.size))
                        have HBQA := Lib.hid hba
                        clear hba x0 x1 y0 y1 z0 z1 v0 v1 lx ly lz lv
                        cases hal : alongX ⟨p1, p2⟩ ⟨p3, p4⟩ with
                        | false =>
                          have HNC := Lib.hid (show clashB (edgN F.cs k) (edgN G.cs q) = false by rw [HCL.out, hal]; rfl)
                          clear hal
                          go_wp2_with fail
                          refine ⟨⟨q + 1, by have := HLQ.out; omega, by simp, ?_, HBA.out⟩, by have := HLQ.out; simp [intOf]; omega⟩
                          intro q' hq'
                          by_cases h : q' = q
                          · subst h; exact HNC.out
                          · exact HNQ.out q' (by omega)
                        | true =>
                        have HAL := Lib.hid hal
                        clear hal
                        have k1 := HK1.out.belowS HBQA.out
                        have k2 := HK2.out.belowS HBQA.out
                        have k3 := HK3.out.belowS HBQA.out
                        have k4 := HK4.out.belowS HBQA.out
                        obtain ⟨x0, x1⟩ := And.intro (k1.cell 0) (k1.cell 1)
                        obtain ⟨y0, y1⟩ := And.intro (k2.cell 0) (k2.cell 1)
                        obtain ⟨z0, z1⟩ := And.intro (k3.cell 0) (k3.cell 1)
                        obtain ⟨v0, v1⟩ := And.intro (k4.cell 0) (k4.cell 1)
                        simp only [List.getElem?_toArray, List.getElem?_cons_zero, List.getElem?_cons_succ] at x0 x1 y0 y1 z0 z1 v0 v1
                        have lx := k1.lt
                        have ly := k2.lt
                        have lz := k3.lt
                        have lv := k4.lt
                        clear k1 k2 k3 k4
                        go_wp2_with fail
                        refine (refLike_any p1 p2 p3 p4 _).mono ?_
                        rintro e wc ⟨rfl, hbc⟩
                        have HBC := Lib.hid (HBA.out.trans (hbc.mono HBA.out.size))
                        have HBCW := Lib.hid (HBAW.out.trans (hbc.mono HBAW.out.size))
                        clear hbc x0 x1 y0 y1 z0 z1 v0 v1 lx ly lz lv
                        cases hli : likeB ⟨p1, p2⟩ ⟨p3, p4⟩ with
                        | true =>
                          have HNC := Lib.hid (show clashB (edgN F.cs k) (edgN G.cs q) = false by rw [HCL.out, HAL.out, hli]; rfl)
                          clear hli
                          go_wp2_with fail
                          refine ⟨⟨q + 1, by have := HLQ.out; omega, by simp, ?_, HBC.out⟩, by have := HLQ.out; simp [intOf]; omega⟩
                          intro q' hq'
                          by_cases h : q' = q
                          · subst h; exact HNC.out
                          · exact HNQ.out q' (by omega)
                        | false =>
                          have hcl : clashB (edgN F.cs k) (edgN G.cs q) = true := by rw [HCL.out, HAL.out, hli]; rfl
                          have HV := Lib.hid (show checkE R = 9 by
                            rw [HTO.out, togetherE, if_neg (by rw [HCV.out]; simp), if_pos (show overF R.fs = true from pairF_true HF.out HG.out HLM.out (List.any_eq_true.2 ⟨k, List.mem_range.2 HLK.out, List.any_eq_true.2 ⟨q, List.mem_range.2 HLQ.out, hcl⟩⟩))])
                          clear hcl hli
                          go_wp2_with fail
                          go_ret
                          exact ⟨by rw [HV.out]; try rfl, HBCW.out⟩
                      obtain rfl : q = G.cs.length := by omega
                      have hqq : ¬ (G.cs.length : Int) < (G.cs.length : Int) := by omega
                      clear hno hb
                      go_wp2_with fail
                      refine ⟨⟨k + 1, by have := HLK.out; omega, by simp, ?_, HWQ.out⟩, by have := HLK.out; simp [intOf]; omega⟩
                      intro k' hk' q' hq'
                      by_cases h : k' = k
                      · subst h; exact HNQ.out q' hq'
                      · exact HNK.out k' (by omega) q' hq'
                  obtain rfl : k = F.cs.length := by omega
                  have hkk : ¬ (F.cs.length : Int) < (F.cs.length : Int) := by omega
                  have HEO := Lib.hid (show edgesOverL F.cs G.cs = false by
                    unfold edgesOverL
                    rw [List.any_eq_false]
                    intro k' hk'
                    rw [Bool.not_eq_true, List.any_eq_false]
                    intro q hq
                    rw [HNK.out k' (List.mem_range.1 hk') q (List.mem_range.1 hq)]
                    simp)
                  go_wp2_with fail
                  refine ⟨⟨m + 1, by have := HLM.out; omega, by simp, ?_, HWK.out⟩, by have := HLM.out; simp [intOf]; omega⟩
                  rw [HTS.out, HNM.out, HEO.out]
                  rfl
              obtain rfl : m = j := by omega
              have hmm : ¬ (m : Int) < (m : Int) := by omega
              go_wp2_with fail
              refine ⟨⟨m + 1, by have := HLJ.out; omega, by simp, ?_, HWM.out⟩, by have := HLJ.out; simp [intOf]; omega⟩
              intro k f hk hf
              by_cases hkm : k = m
              · subst hkm
                obtain rfl : f = F := Option.some.inj (hf.symm.trans HF.out)
                exact HNM.out
              · exact HNO.out k f (by omega) hf
          obtain rfl : j = R.fs.length := by omega
          have hjj : ¬ (R.fs.length : Int) < (R.fs.length : Int) := by omega
          have HV := Lib.hid (show checkE R = 0 by
            rw [HTO.out, togetherE, if_neg (by rw [HCV.out]; simp), if_neg (by rw [show overF R.fs = false from pairF_false (fun k f hk hf => HNO.out k f hk hf)]; simp)])
          clear HNO
          go_wp2_with fail
          go_ret
          exact ⟨by rw [HV.out]; try rfl, HWW.out⟩
end Go.Proofs.Ytpdgcajbdaleeaa
