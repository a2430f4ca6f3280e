/- isHeap, areHeaps, areYears: which heaps may be of a farm. -/
import Derived.Test.YtfhalmlpnoepcaaGreatGC
namespace Go.Proofs.YtfhalmlpnoepcaaGreat
open Go.RowKit

set_option maxRecDepth 100000 in
set_option maxHeartbeats 4000000 in
theorem indexC_any (F : Frm) (h : Hep) (a : Option Addr) (cap B D : Nat) (l : List Prt) (w : World) (hF : IsFarm w F) (hs : IsPrts w a cap l) (hl : l.length ≤ 100000) (hB : Blk w B #[.slice F.pa F.ps.length F.pc, .int .i64 F.dry] 24) (hD : Blk w D (hepC h) 53)
    (hok : ∀ p ∈ l, p.ok F.ps.length) (hlen : F.ps.length ≤ 12) :
    Calls Tryz.prog 107 #[.slice a l.length cap, .func (.func 103) #[] #[.pointer (some ⟨B, 0, none⟩), .pointer (some ⟨D, 0, none⟩)]] w
      fun e w' => (∃ i : Int, e = .returned (.int .i64 i) ∧ decide (0 ≤ i) = !cropsB F.ps h.crop l) ∧ Below w.heap.size w w' := by
  have HS := Lib.hid hs
  have HB := Lib.hid hB
  have HD := Lib.hid hD
  have HF := Lib.hid hF
  have HOK := Lib.hid hok
  clear hs hB hD hF hok
  go_enter Tryz.func107, Tryz.ntmps107
  go_wp2_with fail
  go_loopw [8, 5] (fun i _ wr => ∃ j : Nat, j ≤ l.length ∧ i = .int .i64 j ∧ (∀ p ∈ l.take j, offB F.ps h.crop p = false) ∧ Below w.heap.size w wr) (fun i _ _ => l.length - (intOf i).toNat)
  case atStart => exact ⟨0, Nat.zero_le _, rfl, by simp, Below.refl _ _⟩
  case round =>
    obtain ⟨j, hj, rfl, hno, g2⟩ := hrel
    by_cases hlj : j < l.length
    · have hq : l[j]? = some l[j] := List.getElem?_eq_getElem hlj
      have htk : l.take (j + 1) = l.take j ++ [l[j]] := by rw [List.take_add_one, hq]; rfl
      obtain ⟨b, off, hea, hblt, hcap, hcx, c0, c1⟩ := (HS.out.belowS g2).at hq
      have hpo := HOK.out _ (List.getElem_mem hlj)
      have hmem := List.getElem_mem hlj
      subst hea
      generalize l[j] = q at *
      have HMEM := Lib.hid hmem
      have HQ := Lib.hid hq
      have HT := Lib.hid htk
      have HN := Lib.hid hno
      have HPO := Lib.hid hpo
      clear hq htk hno hmem hpo
      have hj0 : (0 : Int) ≤ (j : Int) := Int.natCast_nonneg _
      have hj1 : (j : Int) < (l.length : Int) := by omega
      go_wp2_with fail
      refine (partOff_any F h q B D _ (HF.out.below g2) (HB.out.belowS g2) (HD.out.belowS g2) HPO.out hlen).mono ?_
      rintro e w1 ⟨rfl, hb1⟩
      have hb2 := g2.trans (hb1.mono g2.size)
      cases hst : offB F.ps h.crop q with
      | true =>
        have hv : decide (0 ≤ (j : Int)) = !cropsB F.ps h.crop l := by
          have : cropsB F.ps h.crop l = false := by
            rw [Bool.eq_false_iff]
            intro k
            have := List.all_eq_true.1 k q HMEM.out
            rw [hst] at this
            cases this
          rw [this]
          exact decide_eq_true hj0
        have HV := Lib.hid hv
        clear hv
        go_wp2_with fail
        go_ret
        exact ⟨⟨_, rfl, HV.out⟩, hb2⟩
      | false =>
        have HSt := Lib.hid hst
        go_wp2_with fail
        refine ⟨⟨j + 1, by omega, by simp, ?_, hb2⟩, by simp [intOf]; omega⟩
        intro x hx
        rw [HT.out] at hx
        rcases List.mem_append.1 hx with hx | hx
        · exact HN.out x hx
        · obtain rfl := List.mem_singleton.1 hx
          exact HSt.out
    · obtain rfl : j = l.length := by omega
      rw [List.take_length] at hno
      have hv : decide (0 ≤ (-1 : Int)) = !cropsB F.ps h.crop l := by
        have : cropsB F.ps h.crop l = true := List.all_eq_true.2 fun x hx => by rw [hno x hx]; rfl
        rw [this]
        rfl
      have HV := Lib.hid hv
      clear hv hno
      go_wp2_with fail
      go_ret
      exact ⟨⟨_, rfl, HV.out⟩, g2⟩

theorem containsC_any (F : Frm) (h : Hep) (a : Option Addr) (cap B D : Nat) (l : List Prt) (w : World) (hF : IsFarm w F) (hs : IsPrts w a cap l) (hl : l.length ≤ 100000) (hB : Blk w B #[.slice F.pa F.ps.length F.pc, .int .i64 F.dry] 24) (hD : Blk w D (hepC h) 53)
    (hok : ∀ p ∈ l, p.ok F.ps.length) (hlen : F.ps.length ≤ 12) :
    Calls Tryz.prog 102 #[.slice a l.length cap, .func (.func 103) #[] #[.pointer (some ⟨B, 0, none⟩), .pointer (some ⟨D, 0, none⟩)]] w
      fun e w' => e = .returned (.bool (!cropsB F.ps h.crop l)) ∧ Below w.heap.size w w' := by
  go_enter Tryz.func102, Tryz.ntmps102
  go_wp2_with fail
  refine (indexC_any F h a cap B D l _ hF hs hl hB hD hok hlen).mono ?_
  rintro e w1 ⟨⟨i, rfl, hi⟩, hb1⟩
  go_wp2
  go_ret
  exact ⟨by rw [← hi]; rfl, hb1⟩

/-- What a heap is that may be. -/
def heapB (ps : List Plt) (h : Hep) : Bool :=
  nameB h.name && (isFromB h.crop 1 3 && (isFromB h.stage 1 3 && (isSpanB h.wlo h.whi 0 1000 && (!(decide (h.parts.length = 0)) && (partsB ps.length h.parts && (cropsB ps h.crop h.parts &&
    (if h.stage = 3 then isFromB h.per 1 100 && (loadsM h.parts % h.per == 0) else h.per == 0)))))))
theorem heapB_parts {ps : List Plt} {h : Hep} (k : heapB ps h = true) : ∀ p ∈ h.parts, p.ok ps.length := by
  simp only [heapB, Bool.and_eq_true] at k
  exact partsB_ok k.2.2.2.2.2.1

theorem hep_cells {W : World} {B : Nat} {h : Hep} {t : TypeId} (k : Blk W B (hepC h) t) : W.cell? ⟨B, 0, none⟩ = some (.string h.name) ∧ W.cell? ⟨B, 1, none⟩ = some (.int .i64 h.crop) ∧ W.cell? ⟨B, 2, none⟩ = some (.int .i64 h.stage) ∧ W.cell? ⟨B, 3, none⟩ = some (.slice h.pa h.parts.length h.pc) ∧
    W.cell? ⟨B, 4, none⟩ = some (.int .i64 h.per) ∧ W.cell? ⟨B, 5, none⟩ = some (.int .i64 h.wlo) ∧ W.cell? ⟨B, 6, none⟩ = some (.int .i64 h.whi) := ⟨k.cell 0, k.cell 1, k.cell 2, k.cell 3, k.cell 4, k.cell 5, k.cell 6⟩
theorem frm_cells {W : World} {B : Nat} {F : Frm} {t : TypeId} (k : Blk W B (frmC F) t) : W.cell? ⟨B, 0, none⟩ = some (.slice F.pa F.ps.length F.pc) ∧ W.cell? ⟨B, 1, none⟩ = some (.int .i64 F.dry) := ⟨k.cell 0, k.cell 1⟩

theorem isFrom_is {n lo hi : Int} {b : Bool} (h : isFromB n lo hi = b) (w : World) : Calls Tryz.prog 28 #[.int .i64 n, .int .i64 lo, .int .i64 hi] w fun e w' => e = .returned (.bool b) ∧ w' = w :=
  (isFrom_any n lo hi w).mono fun _ _ ⟨h1, h2⟩ => ⟨by rw [h1, h], h2.symm⟩
abbrev HeldH (W : World) (D : Nat) (h : Hep) (w : World) : Prop := Below W.heap.size W w ∧
  (w.cell? ⟨D, 0, none⟩ = some (.string h.name) ∧ w.cell? ⟨D, 1, none⟩ = some (.int .i64 h.crop) ∧ w.cell? ⟨D, 2, none⟩ = some (.int .i64 h.stage) ∧ w.cell? ⟨D, 3, none⟩ = some (.slice h.pa h.parts.length h.pc) ∧
    w.cell? ⟨D, 4, none⟩ = some (.int .i64 h.per) ∧ w.cell? ⟨D, 5, none⟩ = some (.int .i64 h.wlo) ∧ w.cell? ⟨D, 6, none⟩ = some (.int .i64 h.whi))
theorem HeldH.step {W w w' : World} {D : Nat} {h : Hep} (k : HeldH W D h w) (hD : D < W.heap.size) (hb : Below w.heap.size w w') : HeldH W D h w' := by
  have hs := k.1.size
  have c : ∀ i, w'.cell? ⟨D, i, none⟩ = w.cell? ⟨D, i, none⟩ := fun i => hb.cell (p := ⟨D, i, none⟩) (Nat.lt_of_lt_of_le hD hs)
  obtain ⟨h0, a0, a1, a2, a3, a4, a5, a6⟩ := k
  exact ⟨h0.trans (hb.mono hs), (c _).trans a0, (c _).trans a1, (c _).trans a2, (c _).trans a3, (c _).trans a4, (c _).trans a5, (c _).trans a6⟩

set_option maxRecDepth 100000 in
set_option maxHeartbeats 4000000 in
theorem isHeap_any (F : Frm) (h : Hep) (w : World) (hF : IsFarm w F) (hs : IsPrts w h.pa h.pc h.parts) (hnm : h.name.size ≤ maxLen) (hlen : F.ps.length ≤ 12) (hpl : h.parts.length ≤ 1000) :
    Calls Tryz.prog 82 #[.agg #[.slice F.pa F.ps.length F.pc, .int .i64 F.dry], .agg #[.string h.name, .int .i64 h.crop, .int .i64 h.stage, .slice h.pa h.parts.length h.pc, .int .i64 h.per, .int .i64 h.wlo, .int .i64 h.whi]] w
      fun e w' => e = .returned (.bool (heapB F.ps h)) ∧ Below w.heap.size w w' := by
  have HF := Lib.hid hF
  have HS := Lib.hid hs
  clear hF hs
  have kB := (Blk.new w 24 (frmC F)).alloc (.cells (hepC h) 53)
  have kD := Blk.new (w.alloc (.cells (frmC F) 24)) 53 (hepC h)
  have hB : Below w.heap.size w ((w.alloc (.cells (frmC F) 24)).alloc (.cells (hepC h) 53)) := ((Below.refl _ w).alloc (by simp) _).alloc (by simp) _
  simp only [World.size_alloc] at kD
  unfold frmC hepC at kB kD hB
  go_enter Tryz.func82, Tryz.ntmps82
  go_upto_region 1 with fail
  generalize ((w.alloc (.cells #[.slice F.pa F.ps.length F.pc, .int .i64 F.dry] 24)).alloc (.cells #[.string h.name, .int .i64 h.crop, .int .i64 h.stage, .slice h.pa h.parts.length h.pc, .int .i64 h.per, .int .i64 h.wlo, .int .i64 h.whi] 53)) = w1 at *
  have HB1 := Lib.hid hB
  have KB := Lib.hid kB
  have KD := Lib.hid kD
  have hltB := kB.lt
  have hltD := kD.lt
  obtain ⟨d0, d1, d2, d3, d4, d5, d6⟩ := hep_cells kD
  obtain ⟨f0, f1⟩ := frm_cells kB
  clear kB kD hB
  go_wp2_with fail
  refine (isName_any h.name _ hnm).mono ?_
  rintro e w2 ⟨rfl, rfl⟩
  cases h1 : nameB h.name with
  | false =>
    have hv : heapB F.ps h = false := by simp [heapB, h1]
    have HV := Lib.hid hv
    clear hv h1
    go_wp2_with fail
    go_ret
    exact ⟨by rw [HV.out]; rfl, HB1.out⟩
  | true =>
  have G1 := Lib.hid h1
  clear h1
  go_wp2_with fail
  refine (isCrop_any h.crop _).mono ?_
  rintro e w2 ⟨rfl, rfl⟩
  cases h2 : isFromB h.crop 1 3 with
  | false =>
    have hv : heapB F.ps h = false := by simp [heapB, h2]
    have HV := Lib.hid hv
    clear hv h2
    go_wp2_with fail
    go_ret
    exact ⟨by rw [HV.out]; rfl, HB1.out⟩
  | true =>
  have G2 := Lib.hid h2
  clear h2
  go_wp2_with fail
  refine (isFromStage_any h.stage 1 3 _).mono ?_
  rintro e w2 ⟨rfl, rfl⟩
  cases h3 : isFromB h.stage 1 3 with
  | false =>
    have hv : heapB F.ps h = false := by simp [heapB, h3]
    have HV := Lib.hid hv
    clear hv h3
    go_wp2_with fail
    go_ret
    exact ⟨by rw [HV.out]; rfl, HB1.out⟩
  | true =>
  have G3 := Lib.hid h3
  clear h3
  go_wp2_with fail
  refine (isSpan_any h.wlo h.whi 0 1000 _).mono ?_
  rintro e w2 ⟨rfl, hb2⟩
  have HB2 := Lib.hid (HB1.out.trans (hb2.mono HB1.out.size))
  have KB2 := Lib.hid (KB.out.belowS hb2)
  have KD2 := Lib.hid (KD.out.belowS hb2)
  clear d0 d1 d2 d3 d4 d5 d6 f0 f1 hltB hltD hb2
  have hltB := KB2.out.lt
  have hltD := KD2.out.lt
  obtain ⟨d0, d1, d2, d3, d4, d5, d6⟩ := hep_cells KD2.out
  obtain ⟨f0, f1⟩ := frm_cells KB2.out
  cases h4 : isSpanB h.wlo h.whi 0 1000 with
  | false =>
    have hv : heapB F.ps h = false := by simp [heapB, h4]
    have HV := Lib.hid hv
    clear hv h4
    go_wp2_with fail
    go_ret
    exact ⟨by rw [HV.out]; rfl, HB2.out⟩
  | true =>
  have G4 := Lib.hid h4
  clear h4
  have hn0 : (0 : Int) ≤ (h.parts.length : Int) := Int.natCast_nonneg _
  by_cases h5 : h.parts.length = 0
  · have hv : heapB F.ps h = false := by simp [heapB, h5]
    have HV := Lib.hid hv
    have q5 : ((h.parts.length : Int) == 0) = true := by simp [h5]
    clear hv h5
    go_wp2_with fail
    go_ret
    exact ⟨by rw [HV.out]; rfl, HB2.out⟩
  have q5 : ((h.parts.length : Int) == 0) = false := by simp; exact fun e => h5 (by rw [e]; rfl)
  have G5 := Lib.hid h5
  clear h5
  go_wp2_with fail
  refine (areParts_any F h.pa h.pc h.parts _ hlen (HS.out.belowS HB2.out)).mono ?_
  rintro e w3 ⟨rfl, hb3⟩
  have HB3 := Lib.hid (HB2.out.trans (hb3.mono HB2.out.size))
  have KB3 := Lib.hid (KB2.out.belowS hb3)
  have KD3 := Lib.hid (KD2.out.belowS hb3)
  clear d0 d1 d2 d3 d4 d5 d6 f0 f1 hltB hltD hb3
  have hltB := KB3.out.lt
  have hltD := KD3.out.lt
  obtain ⟨d0, d1, d2, d3, d4, d5, d6⟩ := hep_cells KD3.out
  obtain ⟨f0, f1⟩ := frm_cells KB3.out
  cases h6 : partsB F.ps.length h.parts with
  | false =>
    have hv : heapB F.ps h = false := by simp [heapB, h6]
    have HV := Lib.hid hv
    clear hv h6
    go_wp2_with fail
    go_ret
    exact ⟨by rw [HV.out]; rfl, HB3.out⟩
  | true =>
  have hok := partsB_ok h6
  have hbd := loadsM_bd hok
  have HOK := Lib.hid hok
  have HBD := Lib.hid hbd
  have G6 := Lib.hid h6
  clear h6 hok hbd
  go_wp2_with fail
  refine (containsC_any F h h.pa h.pc w.heap.size (w.heap.size + 1) h.parts _ (HF.out.below HB3.out) (HS.out.belowS HB3.out) (by omega) KB3.out KD3.out HOK.out hlen).mono ?_
  rintro e w4 ⟨rfl, hb4⟩
  have HB4 := Lib.hid (HB3.out.trans (hb4.mono HB3.out.size))
  have KB4 := Lib.hid (KB3.out.belowS hb4)
  have KD4 := Lib.hid (KD3.out.belowS hb4)
  clear d0 d1 d2 d3 d4 d5 d6 f0 f1 hltB hltD hb4
  have hltB := KB4.out.lt
  have hltD := KD4.out.lt
  obtain ⟨d0, d1, d2, d3, d4, d5, d6⟩ := hep_cells KD4.out
  obtain ⟨f0, f1⟩ := frm_cells KB4.out
  cases h7 : cropsB F.ps h.crop h.parts with
  | false =>
    have hv : heapB F.ps h = false := by simp [heapB, h7]
    have HV := Lib.hid hv
    clear hv h7
    go_wp2_with fail
    go_ret
    exact ⟨by rw [HV.out]; rfl, HB4.out⟩
  | true =>
  have G7 := Lib.hid h7
  clear h7
  have hv : heapB F.ps h = if h.stage = 3 then isFromB h.per 1 100 && (loadsM h.parts % h.per == 0) else h.per == 0 := by
    rw [heapB, G1.out, G2.out, G3.out, G4.out, G6.out, G7.out]
    simp [G5.out]
  by_cases h8 : h.stage = 3
  · rw [if_pos h8] at hv
    have q8 : (h.stage == 3) = true := by simp [h8]
    have q8' : (h.stage != 3) = false := by simp [h8]
    have HV := Lib.hid hv
    clear hv h8
    go_upto_region 9 with fail
    have hx : HeldH w4 (w.heap.size + 1) h w4.drew := ⟨(Below.refl _ _).drew, hep_cells (KD4.out.drew)⟩
    cases h9 : isFromB h.per 1 100 with
    | false =>
      have hv2 : heapB F.ps h = false := by rw [HV.out, h9]; rfl
      have HV2 := Lib.hid hv2
      have H9 := Lib.hid h9
      clear hv2 h9
      go_quiet (first | (go_at_call 28; with_reducible refine Calls.quiet_of_same (isFrom_is H9.out _)))
      go_wp2_with fail
      go_ret
      exact ⟨by rw [HV2.out]; rfl, HB4.out.trans (below_drewN' _ _ _)⟩
    | true =>
      have hv2 : heapB F.ps h = (loadsM h.parts % h.per == 0) := by rw [HV.out, h9]; rfl
      have HV2 := Lib.hid hv2
      have hper := isFromB_iff.1 h9
      have H9 := Lib.hid h9
      obtain ⟨hp1, hp2⟩ := hper
      have hp0 : ¬ h.per = 0 := by omega
      have hp0' : (h.per == 0) = false := by simp [hp0]
      have htm : (loadsM h.parts).tmod h.per = loadsM h.parts % h.per := Int.tmod_eq_emod_of_nonneg HBD.out.1
      obtain ⟨hl1, hl2⟩ := HBD.out
      clear hv2 h9
      go_region_held3 (fun w' => Below w4.heap.size w4 w' ∧ (w'.cell? ⟨w.heap.size + 1, 0, none⟩ = some (.string h.name) ∧ w'.cell? ⟨w.heap.size + 1, 1, none⟩ = some (.int .i64 h.crop) ∧ w'.cell? ⟨w.heap.size + 1, 2, none⟩ = some (.int .i64 h.stage) ∧ w'.cell? ⟨w.heap.size + 1, 3, none⟩ = some (.slice h.pa h.parts.length h.pc) ∧
          w'.cell? ⟨w.heap.size + 1, 4, none⟩ = some (.int .i64 h.per) ∧ w'.cell? ⟨w.heap.size + 1, 5, none⟩ = some (.int .i64 h.wlo) ∧ w'.cell? ⟨w.heap.size + 1, 6, none⟩ = some (.int .i64 h.whi)))
        (first | (with_reducible exact hx) | (with_reducible refine HeldH.step ?_ hltD hb5; with_reducible assumption) | (with_reducible assumption))
        (first | (go_at_call 28; (with_reducible refine (isFrom_is H9.out _).mono ?_); rintro r w3 ⟨rfl, rfl⟩) | (go_at_call 89; (refine (loadsOf_any F.ps.length h.pa h.pc h.parts _ (HS.out.belowS (HB4.out.trans ((And.left (by with_reducible assumption) : Below w4.heap.size w4 _).mono HB4.out.size))) HOK.out hpl).mono ?_); rintro r w5 ⟨rfl, hb5⟩))
      go_wp2_with fail
      go_ret
      exact ⟨by rw [HV2.out]; rfl, HB4.out.trans ((And.left (by with_reducible assumption) : Below w4.heap.size w4 _).mono HB4.out.size)⟩
  · rw [if_neg h8] at hv
    have q8 : (h.stage == 3) = false := by simp [h8]
    have q8' : (h.stage != 3) = true := by simp [h8]
    have HV := Lib.hid hv
    clear hv h8
    go_wp2_with fail
    go_ret
    exact ⟨by rw [HV.out]; rfl, HB4.out⟩
end Go.Proofs.YtfhalmlpnoepcaaGreat
