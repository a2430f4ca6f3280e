/- The specification's Check of a farm: the first error is the same. -/
import Derived.Test.YtfhalmlpnoepcaaGreatFO
import Derived.Deep.DeepCutAuto
import Derived.Deep.CutRange
namespace Go.Proofs.YtfhalmlpnoepcaaGreat
open Go.RowKit

def argsB (p : Plt) : Bool := isFromB p.crop 1 3 && (isFromB p.size 1 100 && (isSpanB p.ylo p.yhi 0 1000 && (isFromB p.rest 1 100 && (isSpanB p.wlo p.whi 0 1000 && (isFromB p.cost 0 1000000)))))
theorem plotE_alt (p : Plt) (l : List Plt) : plotE p l = if nameB p.name = false then 5 else if decide (0 ≤ idxP l p) = true then 6 else if argsB p = true then 0 else 1 := by
  unfold plotE argsB
  cases nameB p.name <;> cases decide (0 ≤ idxP l p) <;> cases isFromB p.crop 1 3 <;> cases isFromB p.size 1 100 <;> cases isSpanB p.ylo p.yhi 0 1000 <;> cases isFromB p.rest 1 100 <;> cases isSpanB p.wlo p.whi 0 1000 <;> cases isFromB p.cost 0 1000000 <;> rfl
theorem below_drewN (B : Nat) (w : World) (n : Nat) : Below B w (w.drewN n) := ⟨rfl, rfl, rfl, Nat.le_refl _, fun _ _ => rfl⟩
theorem idxP_none {l : List Plt} {p : Plt} (h : ∀ f ∈ l, strB f.name p.name = false) : decide (0 ≤ idxP l p) = false := by
  rw [idxP, findIdx_none_take l _ h]
  rfl
theorem idxP_some {l : List Plt} {p q : Plt} {k : Nat} (hk : l[k]? = some q) (h : strB q.name p.name = true) : decide (0 ≤ idxP l p) = true := by
  unfold idxP
  cases hf : l.findIdx? (fun f => strB f.name p.name) with
  | none =>
    rw [List.findIdx?_eq_none_iff] at hf
    rw [hf q (List.mem_of_getElem? hk)] at h
    cases h
  | some i => simp

/-- The first wrong field tells the error. -/
theorem ckE {pa : Option Addr} {pc : Nat} {fs : List Plt} {dry : Int} {j : Nat} {p : Plt} {E : Int} (hq : fs[j]? = some p) (hlj : j < fs.length) (h12 : ¬ 12 < fs.length)
    (hno : ∀ k, k < j → (match fs[k]? with | some f => plotE f (fs.take k) | none => 0) = 0) (hpe : plotE p (fs.take j) = E) (hE : E ≠ 0) : checkE ⟨pa, pc, fs, dry⟩ = E := by
  have hfe : plotsE fs = E := by
    have := firstNZ_at (g := fun i => match fs[i]? with | some f => plotE f (fs.take i) | none => 0) hlj hno (by simp only [hq]; rw [hpe]; exact hE)
    simp only [hq] at this
    exact this.trans hpe
  show (if 12 < fs.length then _ else _) = E
  rw [if_neg h12, if_pos (by rw [hfe]; exact hE), hfe]

set_option maxRecDepth 100000 in
set_option maxHeartbeats 8000000 in
theorem refCheck_any (R : Frm) (w : World) (hR : IsFarm w R) :
    Calls Tryz.prog 39 #[.agg #[.slice R.pa R.ps.length R.pc, .int .i64 R.dry]] w fun e w' => e = .returned (.int .i64 (checkE R)) ∧ Below w.heap.size w w' := by
  have hlf := hR.len
  obtain ⟨fa, fc, fs, dry⟩ := R
  simp only [] at hlf
  by_cases h12 : 12 < fs.length
  · have hv : checkE ⟨fa, fc, fs, dry⟩ = 3 := by simp [checkE, h12]
    have HV := Lib.hid hv
    clear hv
    go_enter Tryz.func39, Tryz.ntmps39
    go_wp2_with fail
    go_ret
    exact ⟨by rw [HV.out]; rfl, (Below.refl _ _).alloc (Nat.le_refl _) _⟩
  have hbR : Blk (w.alloc (.cells #[.slice fa fs.length fc, .int .i64 dry] 24)) w.heap.size #[.slice fa fs.length fc, .int .i64 dry] 24 := Blk.new _ _ _
  have hB : Below w.heap.size w (w.alloc (.cells #[.slice fa fs.length fc, .int .i64 dry] 24)) := (Below.refl _ _).alloc (Nat.le_refl _) _
  have HR := Lib.hid hR
  clear hR
  go_enter Tryz.func39, Tryz.ntmps39
  go_wp2_with fail
  go_loopw [3, 4, 5] (fun i _ _ wr => ∃ j : Nat, j ≤ fs.length ∧ i = .int .i64 j ∧ (∀ k, k < j → (match fs[k]? with | some f => plotE f (fs.take k) | none => 0) = 0) ∧ Blk wr w.heap.size #[.slice fa fs.length fc, .int .i64 dry] 24 ∧ Below w.heap.size w wr) (fun i _ _ _ => fs.length - (intOf i).toNat)
  case atStart => exact ⟨0, Nat.zero_le _, rfl, fun k h => by omega, hbR, hB⟩
  case round =>
    obtain ⟨j, hj, rfl, hno, g1, g2⟩ := hrel
    have HNO := Lib.hid hno
    have hRr := HR.out.below g2
    have c0 := g1.cell 0
    simp only [List.getElem?_toArray, List.getElem?_cons_zero] at c0
    clear hno
    by_cases hlj : j < fs.length
    · rcases hRr with ⟨_, hn⟩ | ⟨b, off, c, h1, h2, h3, h4, h5⟩
      · simp only [] at hn
        rw [hn] at hlj
        simp at hlj
      have hq : fs[j]? = some fs[j] := List.getElem?_eq_getElem hlj
      obtain ⟨⟨d0, d1, d2, d3, d4, d5, d6, d7, d8⟩, hfin⟩ := h5 j _ hq
      obtain ⟨rfl, _, rfl⟩ := slice_inj h1
      simp only [] at d0 d1 d2 d3 d4 d5 d6 d7 d8 hfin h3
      generalize fs[j] = p at *
      have HQ := Lib.hid hq
      have H5 := Lib.hid h5
      clear hq h1 h5
      have hj0 : (0 : Int) ≤ (j : Int) := Int.natCast_nonneg _
      have hj1 : (j : Int) < (fs.length : Int) := by omega
      have hj12 : (j : Int) ≤ 12 := by omega
      have kP := Blk.new wr 50 (pltC p)
      have hb0 : Below wr.heap.size wr (wr.alloc (.cells (pltC p) 50)) := (Below.refl _ wr).alloc (Nat.le_refl _) _
      unfold pltC at kP hb0
      have l0 := g1.lt
      go_upto_region 7 with fail
      generalize wr.alloc (.cells #[.string p.name, .int .i64 p.crop, .int .i64 p.size, .int .i64 p.ylo, .int .i64 p.yhi, .int .i64 p.rest, .int .i64 p.wlo, .int .i64 p.whi, .int .i64 p.cost] 50) = w1 at kP hb0 ⊢
      have g3 := g2.trans (hb0.mono g2.size)
      have k1 := g1.belowS hb0
      have e0 := kP.cell 0
      simp only [List.getElem?_toArray, List.getElem?_cons_zero] at e0
      have HK1 := Lib.hid k1
      have HKP := Lib.hid kP
      have lP := kP.lt
      have hb1 : b < w1.heap.size := Nat.lt_of_lt_of_le h2 hb0.size
      have H5' := Lib.hid (show ∀ j f, fs[j]? = some f → PltAt w1 b (off + j * 9) f ∧ f.name.size ≤ maxLen from fun j f hf => ⟨((H5.out j f hf).1).below hb0 h2, (H5.out j f hf).2⟩)
      clear d0 d1 d2 d3 d4 d5 d6 d7 d8 c0 k1 kP hb0 g1 H5 h2
      go_wp2_with fail
      refine (refName_any p.name _ hfin).mono ?_
      rintro e w2 ⟨rfl, rfl⟩
      cases hn : nameB p.name with
      | false =>
        have hpe : plotE p (fs.take j) = 5 := by rw [plotE_alt, if_pos hn]
        have hv : checkE ⟨some ⟨b, off, none⟩, fc, fs, dry⟩ = 5 := ckE HQ.out hlj (by omega) HNO.out hpe (by omega)
        have HV := Lib.hid hv
        clear hv hpe hn
        go_wp2_with fail
        go_ret
        exact ⟨by rw [HV.out]; rfl, g3⟩
      | true =>
      have HN := Lib.hid hn
      clear hn
      go_wp2_with fail
      obtain ⟨wo, rfl⟩ : ∃ wo : World, wo = w1 := ⟨_, rfl⟩
      go_loopw [5] (fun kk wr2 => ∃ k : Nat, k ≤ j ∧ kk = .int .i64 k ∧ (∀ f ∈ fs.take k, strB f.name p.name = false) ∧ Below wo.heap.size wo wr2) (fun kk _ => j - (intOf kk).toNat)
      case atStart => exact ⟨0, Nat.zero_le _, rfl, by simp, Below.refl _ _⟩
      case round =>
        obtain ⟨k, hk, rfl, hns, hb2⟩ := hrel
        obtain ⟨wr2, rfl⟩ : ∃ wr2 : World, wr2 = wr := ⟨_, rfl⟩
        have HNS := Lib.hid hns
        have kp2 := HKP.out.belowS hb2
        have kf2 := HK1.out.belowS hb2
        have lP2 := kp2.lt
        have lF2 := kf2.lt
        have f0 := kf2.cell 0
        have e0 := kp2.cell 0
        simp only [List.getElem?_toArray, List.getElem?_cons_zero] at f0 e0
        clear hns
        by_cases hkj : k < j
        · have hkf : k < fs.length := by omega
          have hq2 : fs[k]? = some fs[k] := List.getElem?_eq_getElem hkf
          have htk : fs.take (k + 1) = fs.take k ++ [fs[k]] := by rw [List.take_add_one, hq2]; rfl
          have hqj : (fs.take j)[k]? = some fs[k] := by rw [List.getElem?_take, if_pos hkj]; exact hq2
          have a0 := ((H5'.out k _ hq2).1.below hb2 hb1).1
          generalize fs[k] = q at *
          have HT := Lib.hid htk
          have HQJ := Lib.hid hqj
          have hk0 : (0 : Int) ≤ (k : Int) := Int.natCast_nonneg _
          have hk1 : (k : Int) < (fs.length : Int) := by omega
          have hk2 : (k : Int) < (j : Int) := by omega
          clear htk hqj hq2
          go_upto_region 12 with fail
          go_cut [39] from 26 to 39 (fun s39 wx => s39 = .bool (strB q.name p.name) ∧ Below wr2.heap.size wr2 wx)
          case first =>
            go_quiet (fail)
            go_wp2_with fail
            go_meet
            exact ⟨rfl, below_drewN _ _ _⟩
          case rest =>
            obtain ⟨rfl, hcx⟩ := hcut
            obtain ⟨w4, rfl⟩ : ∃ w4 : World, w4 = wc := ⟨_, rfl⟩
            have hb4 := hb2.trans (hcx.mono hb2.size)
            cases hst : strB q.name p.name with
            | true =>
              have hpe : plotE p (fs.take j) = 6 := by rw [plotE_alt, if_neg (by rw [HN.out]; simp), if_pos (idxP_some HQJ.out hst)]
              have hv : checkE ⟨some ⟨b, off, none⟩, fc, fs, dry⟩ = 6 := ckE HQ.out hlj (by omega) HNO.out hpe (by omega)
              have HV := Lib.hid hv
              clear hv hpe hst
              go_wp2_with fail
              go_ret
              exact ⟨by rw [HV.out]; rfl, g3.trans (hb4.mono g3.size)⟩
            | false =>
              have HS := Lib.hid hst
              clear hst
              go_wp2_with fail
              refine ⟨⟨k + 1, by omega, by simp, ?_, hb4⟩, by simp [intOf]; omega⟩
              intro x hx
              rw [HT.out] at hx
              rcases List.mem_append.1 hx with hx | hx
              · exact HNS.out x hx
              · obtain rfl := List.mem_singleton.1 hx
                exact HS.out
        · obtain rfl : k = j := by omega
          have hidx := idxP_none HNS.out
          have HIX := Lib.hid hidx
          clear hidx
          go_upto_region 14 with fail
          go_cut [73] from 40 to 73 (fun s73 wx => s73 = .bool (!argsB p) ∧ Below wr2.heap.size wr2 wx)
          case first =>
            have c1 := kp2.cell 1
            have c2 := kp2.cell 2
            have c3 := kp2.cell 3
            have c4 := kp2.cell 4
            have c5 := kp2.cell 5
            have c6 := kp2.cell 6
            have c7 := kp2.cell 7
            have c8 := kp2.cell 8
            simp only [List.getElem?_toArray, List.getElem?_cons_zero, List.getElem?_cons_succ] at c1 c2 c3 c4 c5 c6 c7 c8
            have HB0 := Lib.hid (Below.refl wr2.heap.size wr2)
            clear f0 e0
            go_wp2_with fail
            refine (refCrop_any p.crop _).mono ?_
            rintro e x1 ⟨rfl, rfl⟩
            cases h1 : isFromB p.crop 1 3 with
            | false =>
              have hv : argsB p = false := by simp [argsB, h1]
              have HV := Lib.hid hv
              clear hv h1
              go_wp2_with fail
              go_meet
              exact ⟨by rw [HV.out]; rfl, HB0.out⟩
            | true =>
            have G1 := Lib.hid h1
            clear h1
            go_wp2_with fail
            refine (refIn_any p.size 1 100 _).mono ?_
            rintro e x2 ⟨rfl, rfl⟩
            cases h2 : isFromB p.size 1 100 with
            | false =>
              have hv : argsB p = false := by simp [argsB, h2]
              have HV := Lib.hid hv
              clear hv h2
              go_wp2_with fail
              go_meet
              exact ⟨by rw [HV.out]; rfl, HB0.out⟩
            | true =>
            have G2 := Lib.hid h2
            clear h2
            go_wp2_with fail
            refine (refSpan_any p.ylo p.yhi 0 1000 _).mono ?_
            rintro e x3 ⟨rfl, hx3⟩
            have HB3 := Lib.hid (HB0.out.trans (hx3.mono HB0.out.size))
            have kp13 := kp2.belowS HB3.out
            have lx3 := kp13.lt
            clear c1 c2 c3 c4 c5 c6 c7 c8 hx3
            have c4 := kp13.cell 4
            have c5 := kp13.cell 5
            have c6 := kp13.cell 6
            have c7 := kp13.cell 7
            have c8 := kp13.cell 8
            have c1 := kp13.cell 1
            have c2 := kp13.cell 2
            have c3 := kp13.cell 3
            simp only [List.getElem?_toArray, List.getElem?_cons_zero, List.getElem?_cons_succ] at c1 c2 c3 c4 c5 c6 c7 c8
            cases h3 : isSpanB p.ylo p.yhi 0 1000 with
            | false =>
              have hv : argsB p = false := by simp [argsB, h3]
              have HV := Lib.hid hv
              clear hv h3
              go_wp2_with fail
              go_meet
              exact ⟨by rw [HV.out]; rfl, HB3.out⟩
            | true =>
            have G3 := Lib.hid h3
            clear h3
            go_wp2_with fail
            refine (refIn_any p.rest 1 100 _).mono ?_
            rintro e x4 ⟨rfl, rfl⟩
            cases h4 : isFromB p.rest 1 100 with
            | false =>
              have hv : argsB p = false := by simp [argsB, h4]
              have HV := Lib.hid hv
              clear hv h4
              go_wp2_with fail
              go_meet
              exact ⟨by rw [HV.out]; rfl, HB3.out⟩
            | true =>
            have G4 := Lib.hid h4
            clear h4
            go_wp2_with fail
            refine (refSpan_any p.wlo p.whi 0 1000 _).mono ?_
            rintro e x5 ⟨rfl, hx5⟩
            have HB5 := Lib.hid (HB3.out.trans (hx5.mono HB3.out.size))
            have kp15 := kp2.belowS HB5.out
            have lx5 := kp15.lt
            clear c1 c2 c3 c4 c5 c6 c7 c8 hx5
            have c4 := kp15.cell 4
            have c5 := kp15.cell 5
            have c6 := kp15.cell 6
            have c7 := kp15.cell 7
            have c8 := kp15.cell 8
            have c1 := kp15.cell 1
            have c2 := kp15.cell 2
            have c3 := kp15.cell 3
            simp only [List.getElem?_toArray, List.getElem?_cons_zero, List.getElem?_cons_succ] at c1 c2 c3 c4 c5 c6 c7 c8
            cases h5 : isSpanB p.wlo p.whi 0 1000 with
            | false =>
              have hv : argsB p = false := by simp [argsB, h5]
              have HV := Lib.hid hv
              clear hv h5
              go_wp2_with fail
              go_meet
              exact ⟨by rw [HV.out]; rfl, HB5.out⟩
            | true =>
            have G5 := Lib.hid h5
            clear h5
            go_wp2_with fail
            refine (refIn_any p.cost 0 1000000 _).mono ?_
            rintro e x6 ⟨rfl, rfl⟩
            cases h6 : isFromB p.cost 0 1000000 with
            | false =>
              have hv : argsB p = false := by simp [argsB, h6]
              have HV := Lib.hid hv
              clear hv h6
              go_wp2_with fail
              go_meet
              exact ⟨by rw [HV.out]; rfl, HB5.out⟩
            | true =>
            have G6 := Lib.hid h6
            clear h6
            go_wp2_with fail
            go_meet
            exact ⟨by rw [argsB, G1.out, G2.out, G3.out, G4.out, G5.out, G6.out]; rfl, HB5.out⟩
          case rest =>
            obtain ⟨rfl, hcx⟩ := hcut
            obtain ⟨w4, rfl⟩ : ∃ w4 : World, w4 = wc := ⟨_, rfl⟩
            have hb4 := hb2.trans (hcx.mono hb2.size)
            have HB4 := Lib.hid hb4
            cases hab : argsB p with
            | false =>
              have hpe : plotE p (fs.take k) = 1 := by rw [plotE_alt, if_neg (by rw [HN.out]; simp), if_neg (by rw [HIX.out]; simp), if_neg (by rw [hab]; simp)]
              have hv : checkE ⟨some ⟨b, off, none⟩, fc, fs, dry⟩ = 1 := ckE HQ.out hlj (by omega) HNO.out hpe (by omega)
              have HV := Lib.hid hv
              clear hv hpe hab f0 e0
              go_wp2_with fail
              go_ret
              exact ⟨by rw [HV.out]; rfl, g3.trans (HB4.out.mono g3.size)⟩
            | true =>
              have hpe : plotE p (fs.take k) = 0 := by rw [plotE_alt, if_neg (by rw [HN.out]; simp), if_neg (by rw [HIX.out]; simp), if_pos hab]
              have HPE := Lib.hid hpe
              clear hpe hab f0 e0
              go_wp2_with fail
              refine ⟨⟨k + 1, by omega, by simp, ?_, HK1.out.belowS HB4.out, g3.trans (HB4.out.mono g3.size)⟩, by simp [intOf]; omega⟩
              intro m hm
              by_cases hmk : m = k
              · subst hmk
                rw [HQ.out]
                exact HPE.out
              · exact HNO.out m (by omega)
    · obtain rfl : j = fs.length := by omega
      have hfe : plotsE fs = 0 := firstNZ_zero (fun i hi => HNO.out i hi)
      have HFE := Lib.hid hfe
      have c1 := g1.cell 1
      have l0 := g1.lt
      simp only [List.getElem?_toArray, List.getElem?_cons_zero, List.getElem?_cons_succ] at c1
      clear hfe HNO hRr
      go_wp2_with fail
      refine (refIn_any dry 0 1000 _).mono ?_
      rintro e w2 ⟨rfl, rfl⟩
      have hv : checkE ⟨fa, fc, fs, dry⟩ = if isFromB dry 0 1000 = false then 1 else 0 := by
        show (if 12 < fs.length then _ else _) = _
        rw [if_neg (by omega), if_neg (by rw [HFE.out]; simp)]
      have HV := Lib.hid hv
      clear hv
      cases hd : isFromB dry 0 1000 with
      | false =>
        have HD := Lib.hid hd
        clear hd
        go_wp2_with fail
        go_ret
        exact ⟨by rw [HV.out, if_pos HD.out]; rfl, g2⟩
      | true =>
        have HD := Lib.hid hd
        clear hd
        go_wp2_with fail
        go_ret
        exact ⟨by rw [HV.out, if_neg (by rw [HD.out]; simp)]; rfl, g2⟩
end Go.Proofs.YtfhalmlpnoepcaaGreat
