/- The specification's heap: which heap may be of a farm. -/
import Derived.Test.YtfhalmlpnoepcaaGreatGE
import Derived.Test.YtfhalmlpnoepcaaGreatGF
import Derived.Test.YtfhalmlpnoepcaaGreatFP
namespace Go.Proofs.YtfhalmlpnoepcaaGreat
open Go.RowKit

theorem heapAt_no {ps : List Plt} {l : List Hep} {i : Nat} {h : Hep} (hq : l[i]? = some h) (hb : heapB ps h = false) : heapAt ps l i = false := by
  rw [heapAt, hq]
  show (!(decide (0 ≤ idxH (l.take i) h.name)) && heapB ps h) = false
  rw [hb, Bool.and_false]
theorem heapAt_dup {ps : List Plt} {l : List Hep} {i k : Nat} {g h : Hep} (hq : l[i]? = some h) (hk : l[k]? = some g) (hki : k < i) (hb : strB g.name h.name = true) : heapAt ps l i = false := by
  have : decide (0 ≤ idxH (l.take i) h.name) = true := idxH_some (by rw [List.getElem?_take, if_pos hki]; exact hk) hb
  rw [heapAt, hq]
  show (!(decide (0 ≤ idxH (l.take i) h.name)) && heapB ps h) = false
  rw [this]
  rfl
theorem heapAt_yes {ps : List Plt} {l : List Hep} {i : Nat} {h : Hep} (hq : l[i]? = some h) (hn : ∀ f ∈ l.take i, strB f.name h.name = false) : heapAt ps l i = heapB ps h := by
  rw [heapAt, hq]
  show (!(decide (0 ≤ idxH (l.take i) h.name)) && heapB ps h) = heapB ps h
  rw [idxH_none hn]
  rfl

set_option maxRecDepth 100000 in
set_option maxHeartbeats 8000000 in
theorem refHeap_any (F : Frm) (S : Sto) (i : Nat) (w : World) (hF : IsFarm w F) (hS : IsHeps w S.ha S.hc S.heaps) (hn : F.ps.length ≤ 12) (hil : i < S.heaps.length) (hpl : ∀ h ∈ S.heaps, h.parts.length ≤ 1000) :
    Calls Tryz.prog 72 #[.agg #[.slice F.pa F.ps.length F.pc, .int .i64 F.dry], stoV S, .int .i64 i] w fun e w' => e = .returned (.bool (heapAt F.ps S.heaps i)) ∧ Below w.heap.size w w' := by
  obtain ⟨fpa, fpc, fps, fdry⟩ := F
  dsimp only at hn ⊢
  have hfl := IsFarm.len hF
  dsimp only at hfl
  have hll := hS.len
  have hq : S.heaps[i]? = some S.heaps[i] := List.getElem?_eq_getElem hil
  have hpl1 := hpl _ (List.getElem_mem hil)
  unfold stoV
  have HF := Lib.hid (show IsPlts w (.slice fpa fps.length fpc) fps from hF)
  generalize hga : S.ha = sha at *
  have HS := Lib.hid hS
  generalize S.heaps[i] = h at *
  have HQ := Lib.hid hq
  have hpw : IsPrts w h.pa h.pc h.parts := by obtain ⟨_, _, _, _, _, _, _, z, _⟩ := hS.at hq; exact z
  have hi0 : (0 : Int) ≤ (i : Int) := Int.natCast_nonneg _
  have hi1 : (i : Int) < (S.heaps.length : Int) := by omega
  have hB : Below w.heap.size w ((w.alloc (.cells #[.slice fpa fps.length fpc, .int .i64 fdry] 24)).alloc (.cells #[.int .i64 S.year, .slice S.la S.last.length S.lc, .slice S.ga S.given.length S.gc, .slice sha S.heaps.length S.hc, .slice S.ua S.used.length S.uc, .slice S.wa S.waste.length S.wc] 29)) := ((Below.refl _ w).alloc (by simp) _).alloc (by simp) _
  have kB := (Blk.new w 24 #[.slice fpa fps.length fpc, .int .i64 fdry]).alloc (.cells #[.int .i64 S.year, .slice S.la S.last.length S.lc, .slice S.ga S.given.length S.gc, .slice sha S.heaps.length S.hc, .slice S.ua S.used.length S.uc, .slice S.wa S.waste.length S.wc] 29)
  have kD := Blk.new (w.alloc (.cells #[.slice fpa fps.length fpc, .int .i64 fdry] 24)) 29 #[.int .i64 S.year, .slice S.la S.last.length S.lc, .slice S.ga S.given.length S.gc, .slice sha S.heaps.length S.hc, .slice S.ua S.used.length S.uc, .slice S.wa S.waste.length S.wc]
  simp only [World.size_alloc] at kD
  obtain ⟨b, off, hea, hblt, hcap, hcx, ⟨c0, c1, c2, c3, c4, c5, c6⟩, hpp, hnm⟩ := (HS.out.belowS hB).at hq
  subst hea
  generalize hpg : h.pa = hpa at *
  have HPP := Lib.hid (show IsPrts _ hpa h.pc h.parts from hpp)
  have HPW := Lib.hid (show IsPrts w hpa h.pc h.parts from hpw)
  clear hq hF hS hpp hpl hpw
  go_enter Tryz.func72, Tryz.ntmps72
  go_upto_region 1 with fail
  generalize ((w.alloc (.cells #[.slice fpa fps.length fpc, .int .i64 fdry] 24)).alloc (.cells #[.int .i64 S.year, .slice S.la S.last.length S.lc, .slice S.ga S.given.length S.gc, .slice (some ⟨b, off, none⟩) S.heaps.length S.hc, .slice S.ua S.used.length S.uc, .slice S.wa S.waste.length S.wc] 29)) = w1 at *
  have d3 := kD.cell 3
  have lD := kD.lt
  simp only [List.getElem?_toArray, List.getElem?_cons_zero, List.getElem?_cons_succ] at d3
  have kH := Blk.new w1 53 #[.string h.name, .int .i64 h.crop, .int .i64 h.stage, .slice hpa h.parts.length h.pc, .int .i64 h.per, .int .i64 h.wlo, .int .i64 h.whi]
  have kB1 := kB.alloc (.cells #[.string h.name, .int .i64 h.crop, .int .i64 h.stage, .slice hpa h.parts.length h.pc, .int .i64 h.per, .int .i64 h.wlo, .int .i64 h.whi] 53)
  have kD1 := kD.alloc (.cells #[.string h.name, .int .i64 h.crop, .int .i64 h.stage, .slice hpa h.parts.length h.pc, .int .i64 h.per, .int .i64 h.wlo, .int .i64 h.whi] 53)
  have hb1 : Below w1.heap.size w1 (w1.alloc (.cells #[.string h.name, .int .i64 h.crop, .int .i64 h.stage, .slice hpa h.parts.length h.pc, .int .i64 h.per, .int .i64 h.wlo, .int .i64 h.whi] 53)) := (Below.refl _ w1).alloc (Nat.le_refl _) _
  have hw1 := hB.size
  go_upto_region 2 with fail
  generalize w1.alloc (.cells #[.string h.name, .int .i64 h.crop, .int .i64 h.stage, .slice hpa h.parts.length h.pc, .int .i64 h.per, .int .i64 h.wlo, .int .i64 h.whi] 53) = w2 at *
  have HB2 := Lib.hid (hB.trans (hb1.mono hB.size))
  have KB2 := Lib.hid kB1
  have KD2 := Lib.hid kD1
  have KH2 := Lib.hid kH
  have HW12 := Lib.hid hb1
  clear kB1 kD1 kH hb1 kB kD hB c0 c1 c2 c3 c4 c5 c6 d3 lD
  have lB := KB2.out.lt
  have lD := KD2.out.lt
  have lH := KH2.out.lt
  have d3 := KD2.out.cell 3
  have f0 := KB2.out.cell 0
  have f1 := KB2.out.cell 1
  have x0 := KH2.out.cell 0
  have x1 := KH2.out.cell 1
  have x2 := KH2.out.cell 2
  have x3 := KH2.out.cell 3
  have x4 := KH2.out.cell 4
  have x5 := KH2.out.cell 5
  have x6 := KH2.out.cell 6
  simp only [List.getElem?_toArray, List.getElem?_cons_zero, List.getElem?_cons_succ] at d3 f0 f1 x0 x1 x2 x3 x4 x5 x6
  go_wp2_with fail
  refine (refName_any h.name _ hnm).mono ?_
  rintro e w3 ⟨rfl, rfl⟩
  cases h1 : nameB h.name with
  | false =>
    have hv : heapAt fps S.heaps i = false := heapAt_no HQ.out (by simp [heapB, h1])
    have HV := Lib.hid hv
    clear hv
    go_wp2_with fail
    go_ret
    exact ⟨by rw [HV.out]; rfl, HB2.out⟩
  | true =>
  have G1 := Lib.hid h1
  clear h1
  go_wp2_with fail
  refine (refCrop_any h.crop _).mono ?_
  rintro e w3 ⟨rfl, rfl⟩
  cases h2 : isFromB h.crop 1 3 with
  | false =>
    have hv : heapAt fps S.heaps i = false := heapAt_no HQ.out (by simp [heapB, h2])
    have HV := Lib.hid hv
    clear hv
    go_wp2_with fail
    go_ret
    exact ⟨by rw [HV.out]; rfl, HB2.out⟩
  | true =>
  have G2 := Lib.hid h2
  clear h2
  by_cases h3 : h.stage < 1
  · have h3' : isFromB h.stage 1 3 = false := by simp [isFromB, show ¬ 1 ≤ h.stage by omega]
    have hv : heapAt fps S.heaps i = false := heapAt_no HQ.out (by simp [heapB, h3'])
    have HV := Lib.hid hv
    clear hv
    go_wp2_with fail
    go_ret
    exact ⟨by rw [HV.out]; rfl, HB2.out⟩
  by_cases h4 : 3 < h.stage
  · have h4' : isFromB h.stage 1 3 = false := by simp [isFromB, show ¬ h.stage ≤ 3 by omega]
    have hv : heapAt fps S.heaps i = false := heapAt_no HQ.out (by simp [heapB, h4'])
    have HV := Lib.hid hv
    clear hv
    go_wp2_with fail
    go_ret
    exact ⟨by rw [HV.out]; rfl, HB2.out⟩
  have G3 := Lib.hid (show isFromB h.stage 1 3 = true from isFromB_iff.2 ⟨by omega, by omega⟩)
  by_cases h5 : h.parts.length = 0
  · have q5 : ((h.parts.length : Int) == 0) = true := by simp [h5]
    have h5' : decide (h.parts.length = 0) = true := by simp [h5]
    have HE5 := Lib.hid h5'
    clear h5 h5'
    have hv : heapAt fps S.heaps i = false := heapAt_no HQ.out (by simp [heapB, of_decide_eq_true HE5.out])
    have HV := Lib.hid hv
    clear hv
    go_wp2_with fail
    go_ret
    exact ⟨by rw [HV.out]; rfl, HB2.out⟩
  have q5 : ((h.parts.length : Int) == 0) = false := by simp; exact fun e => h5 (by rw [e]; rfl)
  have G5 := Lib.hid h5
  clear h5
  go_wp2_with fail
  refine (refOrdered_any ⟨fpa, fpc, fps, fdry⟩ hpa h.pc h.parts _ hn (HPP.out.belowS HW12.out)).mono ?_
  rintro e w3 ⟨rfl, hb⟩
  have HB3 := Lib.hid (HB2.out.trans (hb.mono HB2.out.size))
  have KB3 := Lib.hid (KB2.out.belowS hb)
  have KD3 := Lib.hid (KD2.out.belowS hb)
  have KH3 := Lib.hid (KH2.out.belowS hb)
  clear lB lD lH d3 f0 f1 x0 x1 x2 x3 x4 x5 x6
  have lB := KB3.out.lt
  have lD := KD3.out.lt
  have lH := KH3.out.lt
  have d3 := KD3.out.cell 3
  have f0 := KB3.out.cell 0
  have f1 := KB3.out.cell 1
  have x0 := KH3.out.cell 0
  have x1 := KH3.out.cell 1
  have x2 := KH3.out.cell 2
  have x3 := KH3.out.cell 3
  have x4 := KH3.out.cell 4
  have x5 := KH3.out.cell 5
  have x6 := KH3.out.cell 6
  simp only [List.getElem?_toArray, List.getElem?_cons_zero, List.getElem?_cons_succ] at d3 f0 f1 x0 x1 x2 x3 x4 x5 x6
  cases h6 : partsB fps.length h.parts with
  | false =>
    have hv : heapAt fps S.heaps i = false := heapAt_no HQ.out (by simp [heapB, h6])
    have HV := Lib.hid hv
    clear hv
    go_wp2_with fail
    go_ret
    exact ⟨by rw [HV.out]; rfl, HB3.out⟩
  | true =>
  have hok := partsB_ok h6
  have HOK := Lib.hid hok
  have HBD := Lib.hid (loadsM_bd hok)
  have G6 := Lib.hid h6
  clear h6 hok hb
  go_wp2_with fail
  refine (refSpan_any h.wlo h.whi 0 1000 _).mono ?_
  rintro e w4 ⟨rfl, hb⟩
  have HB4 := Lib.hid (HB3.out.trans (hb.mono HB3.out.size))
  have KB4 := Lib.hid (KB3.out.belowS hb)
  have KD4 := Lib.hid (KD3.out.belowS hb)
  have KH4 := Lib.hid (KH3.out.belowS hb)
  clear lB lD lH d3 f0 f1 x0 x1 x2 x3 x4 x5 x6
  have lB := KB4.out.lt
  have lD := KD4.out.lt
  have lH := KH4.out.lt
  have d3 := KD4.out.cell 3
  have f0 := KB4.out.cell 0
  have f1 := KB4.out.cell 1
  have x0 := KH4.out.cell 0
  have x1 := KH4.out.cell 1
  have x2 := KH4.out.cell 2
  have x3 := KH4.out.cell 3
  have x4 := KH4.out.cell 4
  have x5 := KH4.out.cell 5
  have x6 := KH4.out.cell 6
  simp only [List.getElem?_toArray, List.getElem?_cons_zero, List.getElem?_cons_succ] at d3 f0 f1 x0 x1 x2 x3 x4 x5 x6
  cases h7 : isSpanB h.wlo h.whi 0 1000 with
  | false =>
    have hv : heapAt fps S.heaps i = false := heapAt_no HQ.out (by simp [heapB, h7])
    have HV := Lib.hid hv
    clear hv
    go_wp2_with fail
    go_ret
    exact ⟨by rw [HV.out]; rfl, HB4.out⟩
  | true =>
  have G7 := Lib.hid h7
  clear h7 hb
  go_wp2_with fail
  clear lB lD lH d3 f0 f1 x0 x1 x2 x3 x4 x5 x6
  go_loopw [8] (fun i' wr => ∃ k : Nat, k ≤ i ∧ i' = .int .i64 k ∧ (∀ f ∈ S.heaps.take k, strB f.name h.name = false) ∧ Below w4.heap.size w4 wr) (fun i' _ => i - (intOf i').toNat)
  case atStart => exact ⟨0, Nat.zero_le _, rfl, by simp, Below.refl _ _⟩
  case round =>
    obtain ⟨k, hk, rfl, hns, hb⟩ := hrel
    have HNS := Lib.hid hns
    have HBr := Lib.hid (HB4.out.trans (hb.mono HB4.out.size))
    have KB5 := Lib.hid (KB4.out.belowS hb)
    have KD5 := Lib.hid (KD4.out.belowS hb)
    have KH5 := Lib.hid (KH4.out.belowS hb)
    clear hns
    have lB := KB5.out.lt
    have lD := KD5.out.lt
    have lH := KH5.out.lt
    have d3 := KD5.out.cell 3
    have f0 := KB5.out.cell 0
    have f1 := KB5.out.cell 1
    have x0 := KH5.out.cell 0
    have x1 := KH5.out.cell 1
    have x2 := KH5.out.cell 2
    have x3 := KH5.out.cell 3
    have x4 := KH5.out.cell 4
    have x5 := KH5.out.cell 5
    have x6 := KH5.out.cell 6
    simp only [List.getElem?_toArray, List.getElem?_cons_zero, List.getElem?_cons_succ] at d3 f0 f1 x0 x1 x2 x3 x4 x5 x6
    by_cases hki : k < i
    · have hkl : k < S.heaps.length := by omega
      have hq2 : S.heaps[k]? = some S.heaps[k] := List.getElem?_eq_getElem hkl
      have htk : S.heaps.take (k + 1) = S.heaps.take k ++ [S.heaps[k]] := by rw [List.take_add_one, hq2]; rfl
      obtain ⟨b', off', hea', _, _, _, ⟨a0, _⟩, _, _⟩ := (HS.out.belowS HBr.out).at hq2
      obtain ⟨rfl, rfl, _⟩ : b = b' ∧ off = off' ∧ True := by injection hea' with h; injection h with h1 h2; exact ⟨h1, h2, trivial⟩
      generalize S.heaps[k] = q at *
      have HT := Lib.hid htk
      have HQ2 := Lib.hid hq2
      have hk0 : (0 : Int) ≤ (k : Int) := Int.natCast_nonneg _
      have hk1 : (k : Int) < (S.heaps.length : Int) := by omega
      have hk2 : (k : Int) < (i : Int) := by omega
      clear htk hq2 hea'
      go_upto_region 7 with fail
      go_cut [67] from 59 to 67 (fun s67 wx => s67 = .bool (strB q.name h.name) ∧ Below wr.heap.size wr wx)
      case first =>
        go_quiet (fail)
        go_wp2_with fail
        go_meet
        exact ⟨rfl, below_drewN' _ _ _⟩
      case rest =>
        obtain ⟨rfl, hcx2⟩ := hcut
        obtain ⟨w9, rfl⟩ : ∃ w9 : World, w9 = wc := ⟨_, rfl⟩
        cases hst : strB q.name h.name with
        | true =>
          have hv : heapAt fps S.heaps i = false := heapAt_dup HQ.out HQ2.out hki hst
          have HV := Lib.hid hv
          clear hv hst
          go_wp2_with fail
          go_ret
          exact ⟨by rw [HV.out]; rfl, HBr.out.trans (hcx2.mono HBr.out.size)⟩
        | false =>
          have HST := Lib.hid hst
          clear hst
          go_wp2_with fail
          refine ⟨⟨k + 1, by omega, by simp, ?_, hb.trans (hcx2.mono hb.size)⟩, by simp [intOf]; omega⟩
          intro x hx
          rw [HT.out] at hx
          rcases List.mem_append.1 hx with hx | hx
          · exact HNS.out x hx
          · obtain rfl := List.mem_singleton.1 hx
            exact HST.out
    · obtain rfl : k = i := by omega
      have HAT := Lib.hid (heapAt_yes (ps := fps) HQ.out HNS.out)
      have h8 : ¬ (k : Int) < (k : Int) := by omega
      obtain ⟨w6, rfl⟩ : ∃ w6 : World, w6 = wr := ⟨_, rfl⟩
      go_wp2_with fail
      clear lB lD lH d3 f0 f1 x0 x1 x2 x3 x4 x5 x6
      go_loopw [9] (fun i' wr => ∃ t : Nat, t ≤ h.parts.length ∧ i' = .int .i64 t ∧ (∀ p ∈ h.parts.take t, offB fps h.crop p = false) ∧ Below w6.heap.size w6 wr) (fun i' _ => h.parts.length - (intOf i').toNat)
      case atStart => exact ⟨0, Nat.zero_le _, rfl, by simp, Below.refl _ _⟩
      case round =>
        obtain ⟨t, ht, rfl, hno, hb6⟩ := hrel
        have HNO := Lib.hid hno
        have HB6 := Lib.hid (HBr.out.trans (hb6.mono HBr.out.size))
        have KB6 := Lib.hid (KB5.out.belowS hb6)
        have KD6 := Lib.hid (KD5.out.belowS hb6)
        have KH6 := Lib.hid (KH5.out.belowS hb6)
        clear hno
        have lB := KB6.out.lt
        have lD := KD6.out.lt
        have lH := KH6.out.lt
        have d3 := KD6.out.cell 3
        have f0 := KB6.out.cell 0
        have f1 := KB6.out.cell 1
        have x0 := KH6.out.cell 0
        have x1 := KH6.out.cell 1
        have x2 := KH6.out.cell 2
        have x3 := KH6.out.cell 3
        have x4 := KH6.out.cell 4
        have x5 := KH6.out.cell 5
        have x6 := KH6.out.cell 6
        simp only [List.getElem?_toArray, List.getElem?_cons_zero, List.getElem?_cons_succ] at d3 f0 f1 x0 x1 x2 x3 x4 x5 x6
        by_cases htl : t < h.parts.length
        · have hq2 : h.parts[t]? = some h.parts[t] := List.getElem?_eq_getElem htl
          have htk : h.parts.take (t + 1) = h.parts.take t ++ [h.parts[t]] := by rw [List.take_add_one, hq2]; rfl
          have hpo := HOK.out _ (List.getElem_mem htl)
          have hmem := List.getElem_mem htl
          obtain ⟨pb, po, hea2, hblt2, _, _, p0, p1⟩ := (HPW.out.belowS HB6.out).at hq2
          subst hea2
          generalize h.parts[t] = p at *
          obtain ⟨pl, ld⟩ := p
          obtain ⟨⟨y0, y1⟩, y2, y3⟩ := hpo
          dsimp only at y0 y1 y2 y3 p0 p1
          obtain ⟨m, rfl⟩ : ∃ m : Nat, pl = (m : Int) := ⟨pl.toNat, by omega⟩
          have hml : m < fps.length := by omega
          have hq3 : fps[m]? = some fps[m] := List.getElem?_eq_getElem hml
          have hof : offB fps h.crop ⟨(m : Int), ld⟩ = !(fps[m].crop == h.crop) := by rw [offB, cropAt, Int.toNat_natCast, hq3]
          obtain ⟨fb, fo, hea3, hblt3, _, _, q0, q1, _⟩ := IsPlts.at (IsPlts.below HF.out HB6.out) hq3
          subst hea3
          generalize fps[m] = Q at *
          have HOF := Lib.hid hof
          have HT := Lib.hid htk
          have HMEM := Lib.hid hmem
          have hneq : ∀ x y : Int, (x != y) = !(x == y) := fun _ _ => rfl
          have ht0 : (0 : Int) ≤ (t : Int) := Int.natCast_nonneg _
          have ht1 : (t : Int) < (h.parts.length : Int) := by omega
          have hm0 : (0 : Int) ≤ (m : Int) := Int.natCast_nonneg _
          have hm1 : (m : Int) < (fps.length : Int) := by omega
          clear htk hq2 hq3 hof hmem p1 q0
          go_upto_region 12 with fail
          go_cut [88] from 75 to 88 (fun s88 wx => s88 = .bool (!(Q.crop == h.crop)) ∧ Below wr.heap.size wr wx)
          case first =>
            go_quiet (fail)
            go_wp2_with fail
            go_meet
            exact ⟨rfl, below_drewN' _ _ _⟩
          case rest =>
            obtain ⟨rfl, hcx2⟩ := hcut
            obtain ⟨w9, rfl⟩ : ∃ w9 : World, w9 = wc := ⟨_, rfl⟩
            cases hst : (Q.crop == h.crop) with
            | false =>
              have hcr : cropsB fps h.crop h.parts = false := by
                rw [Bool.eq_false_iff]
                intro k
                have := List.all_eq_true.1 k _ HMEM.out
                rw [HOF.out, hst] at this
                cases this
              have hv : heapAt fps S.heaps k = false := heapAt_no HQ.out (by simp [heapB, hcr])
              have HV := Lib.hid hv
              clear hv hst hcr
              go_wp2_with fail
              go_ret
              exact ⟨by rw [HV.out]; rfl, HB6.out.trans (hcx2.mono HB6.out.size)⟩
            | true =>
              have HST := Lib.hid hst
              clear hst
              go_wp2_with fail
              refine ⟨⟨t + 1, by omega, by simp, ?_, hb6.trans (hcx2.mono hb6.size)⟩, by simp [intOf]; omega⟩
              intro x hx
              rw [HT.out] at hx
              rcases List.mem_append.1 hx with hx | hx
              · exact HNO.out x hx
              · obtain rfl := List.mem_singleton.1 hx
                rw [HOF.out, HST.out]
                rfl
        · obtain rfl : t = h.parts.length := by omega
          have hno2 := HNO.out
          rw [List.take_length] at hno2
          have hcr : cropsB fps h.crop h.parts = true := List.all_eq_true.2 fun x hx => by rw [hno2 x hx]; rfl
          have hv : heapAt fps S.heaps k = if h.stage = 3 then isFromB h.per 1 100 && (loadsM h.parts % h.per == 0) else h.per == 0 := by
            rw [HAT.out, heapB, G1.out, G2.out, G3.out, G7.out, G6.out, hcr]
            simp [G5.out]
          clear hcr hno2
          by_cases h8 : h.stage = 3
          · rw [if_pos h8] at hv
            have q8 : (h.stage == 3) = true := by simp [h8]
            have q8' : (h.stage != 3) = false := by simp [h8]
            have HV := Lib.hid hv
            clear hv h8
            have hpq := HPW.out.belowS HB6.out
            have hrl := fun w' hw => refLoads_any fps.length hpa h.pc h.parts w' hw HOK.out hpl1
            go_upto_region 16 with fail
            cases h9 : isFromB h.per 1 100 with
            | false =>
              have hv2 : heapAt fps S.heaps k = false := by rw [HV.out, h9]; rfl
              have HV2 := Lib.hid hv2
              have H9 := Lib.hid h9
              clear hv2 h9
              go_quiet (first | (go_at_call 43; with_reducible refine Calls.quiet_of_same (refIn_is H9.out _)))
              go_wp2_with fail
              go_ret
              exact ⟨by rw [HV2.out]; rfl, HB6.out.trans (below_drewN' _ _ _)⟩
            | true =>
              have hv2 : heapAt fps S.heaps k = (loadsM h.parts % h.per == 0) := by rw [HV.out, h9]; rfl
              have HV2 := Lib.hid hv2
              have hper := isFromB_iff.1 h9
              have H9 := Lib.hid h9
              obtain ⟨hp1, hp2⟩ := hper
              have hp0 : ¬ h.per = 0 := by omega
              have hp0' : (h.per == 0) = false := by simp [hp0]
              have htm : (loadsM h.parts).tmod h.per = loadsM h.parts % h.per := Int.tmod_eq_emod_of_nonneg HBD.out.1
              obtain ⟨hl1, hl2⟩ := HBD.out
              have hrl2 : ∀ n, Calls Tryz.prog 46 #[.slice hpa h.parts.length h.pc] (wr.drewN n) fun e w' => e = .returned (.int .i64 (loadsM h.parts)) ∧ w' = wr.drewN n := fun n => (hrl _ (hpq.belowS (below_drewN' _ _ _))).mono fun _ _ ⟨a, b⟩ => ⟨a, b.symm⟩
              have HRL := Lib.hid hrl2
              clear hv2 h9 hrl hrl2 hpq
              go_quiet (first | (go_at_call 43; with_reducible refine Calls.quiet_of_same (refIn_is H9.out _)) | (go_at_call 46; refine Calls.quiet_of_same (HRL.out _)))
              go_wp2_with fail
              go_ret
              exact ⟨by rw [HV2.out]; rfl, HB6.out.trans (below_drewN' _ _ _)⟩
          · rw [if_neg h8] at hv
            have q8 : (h.stage == 3) = false := by simp [h8]
            have q8' : (h.stage != 3) = true := by simp [h8]
            have HV := Lib.hid hv
            clear hv h8
            go_wp2_with fail
            go_ret
            exact ⟨by rw [HV.out]; rfl, HB6.out⟩
end Go.Proofs.YtfhalmlpnoepcaaGreat
