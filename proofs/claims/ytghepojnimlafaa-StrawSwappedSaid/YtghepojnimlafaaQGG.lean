/- isHeap, areHeaps, areYears: which heaps may be of a farm. areYears, areHeaps: which years and heaps may be of a farm. ledgerOf: what each field gave, and where that is. -/
import Derived.Test.YtghepojnimlafaaQGC
import Derived.Deep.RegionWith
import Derived.StillTailTactics
namespace Go.Proofs.Ytghepojnimlafaa
section
open Go.RowKit

set_option maxRecDepth 100000 in
set_option maxHeartbeats 4000000 in
theorem indexC_any (F : Frm) (h : Hep) (a : Option Addr) (cap B D : Nat) (l : List Prt) (w : World) (hF : IsFarm w F) (hs : IsPrts w a cap l) (hl : l.length ≤ 100000) (hB : Blk w B #[.slice F.pa F.ps.length F.pc, .int .i64 F.dry] 24) (hD : Blk w D (hepC h) 77)
    (hok : ∀ p ∈ l, p.ok F.ps.length) (hlen : F.ps.length ≤ 12) :
    Calls Try.prog 73 #[.slice a l.length cap, .func (.func 62) #[] #[.pointer (some ⟨B, 0, none⟩), .pointer (some ⟨D, 0, none⟩)]] w
      fun e w' => (∃ i : Int, e = .returned (.int .i64 i) ∧ decide (0 ≤ i) = !cropsB F.ps h.crop l) ∧ Below w.heap.size w w' := by
  have HS := Lib.hid hs
  have HB := Lib.hid hB
  have HD := Lib.hid hD
  have HF := Lib.hid hF
  have HOK := Lib.hid hok
  clear hs hB hD hF hok
  go_enter Try.func73, Try.ntmps73
  go_wp2_with fail
  go_loopw [8, 5] (fun i _ wr => ∃ j : Nat, j ≤ l.length ∧ i = .int .i64 j ∧ (∀ p ∈ l.take j, offB F.ps h.crop p = false) ∧ Below w.heap.size w wr) (fun i _ _ => l.length - (intOf i).toNat)
  case atStart => exact ⟨0, Nat.zero_le _, rfl, by simp, Below.refl _ _⟩
  case round =>
    obtain ⟨j, hj, rfl, hno, g2⟩ := hrel
    by_cases hlj : j < l.length
    · have hq : l[j]? = some l[j] := List.getElem?_eq_getElem hlj
      have htk : l.take (j + 1) = l.take j ++ [l[j]] := by rw [List.take_add_one, hq]; rfl
      obtain ⟨b, off, hea, hblt, hcap, hcx, c0, c1⟩ := (HS.out.belowS g2).at hq
      have hpo := HOK.out _ (List.getElem_mem hlj)
      have hmem := List.getElem_mem hlj
      subst hea
      generalize l[j] = q at *
      have HMEM := Lib.hid hmem
      have HQ := Lib.hid hq
      have HT := Lib.hid htk
      have HN := Lib.hid hno
      have HPO := Lib.hid hpo
      clear hq htk hno hmem hpo
      have hj0 : (0 : Int) ≤ (j : Int) := Int.natCast_nonneg _
      have hj1 : (j : Int) < (l.length : Int) := by omega
      go_wp2_with fail
      refine (partOff_any F h q B D _ (HF.out.below g2) (HB.out.belowS g2) (HD.out.belowS g2) HPO.out hlen).mono ?_
      rintro e w1 ⟨rfl, hb1⟩
      have hb2 := g2.trans (hb1.mono g2.size)
      cases hst : offB F.ps h.crop q with
      | true =>
        have hv : decide (0 ≤ (j : Int)) = !cropsB F.ps h.crop l := by
          have : cropsB F.ps h.crop l = false := by
            rw [Bool.eq_false_iff]
            intro k
            have := List.all_eq_true.1 k q HMEM.out
            rw [hst] at this
            cases this
          rw [this]
          exact decide_eq_true hj0
        have HV := Lib.hid hv
        clear hv
        go_wp2_with fail
        go_ret
        exact ⟨⟨_, rfl, HV.out⟩, hb2⟩
      | false =>
        have HSt := Lib.hid hst
        go_wp2_with fail
        refine ⟨⟨j + 1, by omega, by simp, ?_, hb2⟩, by simp [intOf]; omega⟩
        intro x hx
        rw [HT.out] at hx
        rcases List.mem_append.1 hx with hx | hx
        · exact HN.out x hx
        · obtain rfl := List.mem_singleton.1 hx
          exact HSt.out
    · obtain rfl : j = l.length := by omega
      rw [List.take_length] at hno
      have hv : decide (0 ≤ (-1 : Int)) = !cropsB F.ps h.crop l := by
        have : cropsB F.ps h.crop l = true := List.all_eq_true.2 fun x hx => by rw [hno x hx]; rfl
        rw [this]
        rfl
      have HV := Lib.hid hv
      clear hv hno
      go_wp2_with fail
      go_ret
      exact ⟨⟨_, rfl, HV.out⟩, g2⟩

theorem containsC_any (F : Frm) (h : Hep) (a : Option Addr) (cap B D : Nat) (l : List Prt) (w : World) (hF : IsFarm w F) (hs : IsPrts w a cap l) (hl : l.length ≤ 100000) (hB : Blk w B #[.slice F.pa F.ps.length F.pc, .int .i64 F.dry] 24) (hD : Blk w D (hepC h) 77)
    (hok : ∀ p ∈ l, p.ok F.ps.length) (hlen : F.ps.length ≤ 12) :
    Calls Try.prog 61 #[.slice a l.length cap, .func (.func 62) #[] #[.pointer (some ⟨B, 0, none⟩), .pointer (some ⟨D, 0, none⟩)]] w
      fun e w' => e = .returned (.bool (!cropsB F.ps h.crop l)) ∧ Below w.heap.size w w' := by
  go_enter Try.func61, Try.ntmps61
  go_wp2_with fail
  refine (indexC_any F h a cap B D l _ hF hs hl hB hD hok hlen).mono ?_
  rintro e w1 ⟨⟨i, rfl, hi⟩, hb1⟩
  go_wp2
  go_ret
  exact ⟨by rw [← hi]; rfl, hb1⟩

/-- What a heap is that may be. -/
def heapB (ps : List Plt) (h : Hep) : Bool :=
  nameB h.name && (isFromB h.crop 1 3 && (isFromB h.stage 1 3 && (isSpanB h.wlo h.whi 0 1000 && (!(decide (h.parts.length = 0)) && (partsB ps.length h.parts && (cropsB ps h.crop h.parts &&
    (if h.stage = 3 then isFromB h.per 1 100 && (loadsM h.parts % h.per == 0) else h.per == 0)))))))
theorem heapB_parts {ps : List Plt} {h : Hep} (k : heapB ps h = true) : ∀ p ∈ h.parts, p.ok ps.length := by
  simp only [heapB, Bool.and_eq_true] at k
  exact partsB_ok k.2.2.2.2.2.1

theorem hep_cells {W : World} {B : Nat} {h : Hep} {t : TypeId} (k : Blk W B (hepC h) t) : W.cell? ⟨B, 0, none⟩ = some (.string h.name) ∧ W.cell? ⟨B, 1, none⟩ = some (.int .i64 h.crop) ∧ W.cell? ⟨B, 2, none⟩ = some (.int .i64 h.stage) ∧ W.cell? ⟨B, 3, none⟩ = some (.slice h.pa h.parts.length h.pc) ∧
    W.cell? ⟨B, 4, none⟩ = some (.int .i64 h.per) ∧ W.cell? ⟨B, 5, none⟩ = some (.int .i64 h.wlo) ∧ W.cell? ⟨B, 6, none⟩ = some (.int .i64 h.whi) := ⟨k.cell 0, k.cell 1, k.cell 2, k.cell 3, k.cell 4, k.cell 5, k.cell 6⟩
theorem frm_cells {W : World} {B : Nat} {F : Frm} {t : TypeId} (k : Blk W B (frmC F) t) : W.cell? ⟨B, 0, none⟩ = some (.slice F.pa F.ps.length F.pc) ∧ W.cell? ⟨B, 1, none⟩ = some (.int .i64 F.dry) := ⟨k.cell 0, k.cell 1⟩

theorem isFrom_is {n lo hi : Int} {b : Bool} (h : isFromB n lo hi = b) (w : World) : Calls Try.prog 13 #[.int .i64 n, .int .i64 lo, .int .i64 hi] w fun e w' => e = .returned (.bool b) ∧ w' = w :=
  (isFrom_any n lo hi w).mono fun _ _ ⟨h1, h2⟩ => ⟨by rw [h1, h], h2.symm⟩
abbrev HeldH (W : World) (D : Nat) (h : Hep) (w : World) : Prop := Below W.heap.size W w ∧
  (w.cell? ⟨D, 0, none⟩ = some (.string h.name) ∧ w.cell? ⟨D, 1, none⟩ = some (.int .i64 h.crop) ∧ w.cell? ⟨D, 2, none⟩ = some (.int .i64 h.stage) ∧ w.cell? ⟨D, 3, none⟩ = some (.slice h.pa h.parts.length h.pc) ∧
    w.cell? ⟨D, 4, none⟩ = some (.int .i64 h.per) ∧ w.cell? ⟨D, 5, none⟩ = some (.int .i64 h.wlo) ∧ w.cell? ⟨D, 6, none⟩ = some (.int .i64 h.whi))
theorem HeldH.step {W w w' : World} {D : Nat} {h : Hep} (k : HeldH W D h w) (hD : D < W.heap.size) (hb : Below w.heap.size w w') : HeldH W D h w' := by
  have hs := k.1.size
  have c : ∀ i, w'.cell? ⟨D, i, none⟩ = w.cell? ⟨D, i, none⟩ := fun i => hb.cell (p := ⟨D, i, none⟩) (Nat.lt_of_lt_of_le hD hs)
  obtain ⟨h0, a0, a1, a2, a3, a4, a5, a6⟩ := k
  exact ⟨h0.trans (hb.mono hs), (c _).trans a0, (c _).trans a1, (c _).trans a2, (c _).trans a3, (c _).trans a4, (c _).trans a5, (c _).trans a6⟩

set_option maxRecDepth 100000 in
set_option maxHeartbeats 4000000 in
theorem isHeap_any (F : Frm) (h : Hep) (w : World) (hF : IsFarm w F) (hs : IsPrts w h.pa h.pc h.parts) (hnm : h.name.size ≤ maxLen) (hlen : F.ps.length ≤ 12) (hpl : h.parts.length ≤ 1000) :
    Calls Try.prog 48 #[.agg #[.slice F.pa F.ps.length F.pc, .int .i64 F.dry], .agg #[.string h.name, .int .i64 h.crop, .int .i64 h.stage, .slice h.pa h.parts.length h.pc, .int .i64 h.per, .int .i64 h.wlo, .int .i64 h.whi]] w
      fun e w' => e = .returned (.bool (heapB F.ps h)) ∧ Below w.heap.size w w' := by
  have HF := Lib.hid hF
  have HS := Lib.hid hs
  clear hF hs
  have kB := (Blk.new w 24 (frmC F)).alloc (.cells (hepC h) 77)
  have kD := Blk.new (w.alloc (.cells (frmC F) 24)) 77 (hepC h)
  have hB : Below w.heap.size w ((w.alloc (.cells (frmC F) 24)).alloc (.cells (hepC h) 77)) := ((Below.refl _ w).alloc (by simp) _).alloc (by simp) _
  simp only [World.size_alloc] at kD
  unfold frmC hepC at kB kD hB
  go_enter Try.func48, Try.ntmps48
  go_upto_region 1 with fail
  generalize ((w.alloc (.cells #[.slice F.pa F.ps.length F.pc, .int .i64 F.dry] 24)).alloc (.cells #[.string h.name, .int .i64 h.crop, .int .i64 h.stage, .slice h.pa h.parts.length h.pc, .int .i64 h.per, .int .i64 h.wlo, .int .i64 h.whi] 77)) = w1 at *
  have HB1 := Lib.hid hB
  have KB := Lib.hid kB
  have KD := Lib.hid kD
  have hltB := kB.lt
  have hltD := kD.lt
  obtain ⟨d0, d1, d2, d3, d4, d5, d6⟩ := hep_cells kD
  obtain ⟨f0, f1⟩ := frm_cells kB
  clear kB kD hB
  go_wp2_with fail
  refine (isName_any h.name _ hnm).mono ?_
  rintro e w2 ⟨rfl, rfl⟩
  cases h1 : nameB h.name with
  | false =>
    have hv : heapB F.ps h = false := by simp [heapB, h1]
    have HV := Lib.hid hv
    clear hv h1
    go_wp2_with fail
    go_ret
    exact ⟨by rw [HV.out]; rfl, HB1.out⟩
  | true =>
  have G1 := Lib.hid h1
  clear h1
  go_wp2_with fail
  refine (isCrop_any h.crop _).mono ?_
  rintro e w2 ⟨rfl, rfl⟩
  cases h2 : isFromB h.crop 1 3 with
  | false =>
    have hv : heapB F.ps h = false := by simp [heapB, h2]
    have HV := Lib.hid hv
    clear hv h2
    go_wp2_with fail
    go_ret
    exact ⟨by rw [HV.out]; rfl, HB1.out⟩
  | true =>
  have G2 := Lib.hid h2
  clear h2
  go_wp2_with fail
  refine (isFromStage_any h.stage 1 3 _).mono ?_
  rintro e w2 ⟨rfl, rfl⟩
  cases h3 : isFromB h.stage 1 3 with
  | false =>
    have hv : heapB F.ps h = false := by simp [heapB, h3]
    have HV := Lib.hid hv
    clear hv h3
    go_wp2_with fail
    go_ret
    exact ⟨by rw [HV.out]; rfl, HB1.out⟩
  | true =>
  have G3 := Lib.hid h3
  clear h3
  go_wp2_with fail
  refine (isSpan_any h.wlo h.whi 0 1000 _).mono ?_
  rintro e w2 ⟨rfl, hb2⟩
  have HB2 := Lib.hid (HB1.out.trans (hb2.mono HB1.out.size))
  have KB2 := Lib.hid (KB.out.belowS hb2)
  have KD2 := Lib.hid (KD.out.belowS hb2)
  clear d0 d1 d2 d3 d4 d5 d6 f0 f1 hltB hltD hb2
  have hltB := KB2.out.lt
  have hltD := KD2.out.lt
  obtain ⟨d0, d1, d2, d3, d4, d5, d6⟩ := hep_cells KD2.out
  obtain ⟨f0, f1⟩ := frm_cells KB2.out
  cases h4 : isSpanB h.wlo h.whi 0 1000 with
  | false =>
    have hv : heapB F.ps h = false := by simp [heapB, h4]
    have HV := Lib.hid hv
    clear hv h4
    go_wp2_with fail
    go_ret
    exact ⟨by rw [HV.out]; rfl, HB2.out⟩
  | true =>
  have G4 := Lib.hid h4
  clear h4
  have hn0 : (0 : Int) ≤ (h.parts.length : Int) := Int.natCast_nonneg _
  by_cases h5 : h.parts.length = 0
  · have hv : heapB F.ps h = false := by simp [heapB, h5]
    have HV := Lib.hid hv
    have q5 : ((h.parts.length : Int) == 0) = true := by simp [h5]
    clear hv h5
    go_wp2_with fail
    go_ret
    exact ⟨by rw [HV.out]; rfl, HB2.out⟩
  have q5 : ((h.parts.length : Int) == 0) = false := by simp; exact fun e => h5 (by rw [e]; rfl)
  have G5 := Lib.hid h5
  clear h5
  go_wp2_with fail
  refine (areParts_any F h.pa h.pc h.parts _ hlen (HS.out.belowS HB2.out)).mono ?_
  rintro e w3 ⟨rfl, hb3⟩
  have HB3 := Lib.hid (HB2.out.trans (hb3.mono HB2.out.size))
  have KB3 := Lib.hid (KB2.out.belowS hb3)
  have KD3 := Lib.hid (KD2.out.belowS hb3)
  clear d0 d1 d2 d3 d4 d5 d6 f0 f1 hltB hltD hb3
  have hltB := KB3.out.lt
  have hltD := KD3.out.lt
  obtain ⟨d0, d1, d2, d3, d4, d5, d6⟩ := hep_cells KD3.out
  obtain ⟨f0, f1⟩ := frm_cells KB3.out
  cases h6 : partsB F.ps.length h.parts with
  | false =>
    have hv : heapB F.ps h = false := by simp [heapB, h6]
    have HV := Lib.hid hv
    clear hv h6
    go_wp2_with fail
    go_ret
    exact ⟨by rw [HV.out]; rfl, HB3.out⟩
  | true =>
  have hok := partsB_ok h6
  have hbd := loadsM_bd hok
  have HOK := Lib.hid hok
  have HBD := Lib.hid hbd
  have G6 := Lib.hid h6
  clear h6 hok hbd
  go_wp2_with fail
  refine (containsC_any F h h.pa h.pc w.heap.size (w.heap.size + 1) h.parts _ (HF.out.below HB3.out) (HS.out.belowS HB3.out) (by omega) KB3.out KD3.out HOK.out hlen).mono ?_
  rintro e w4 ⟨rfl, hb4⟩
  have HB4 := Lib.hid (HB3.out.trans (hb4.mono HB3.out.size))
  have KB4 := Lib.hid (KB3.out.belowS hb4)
  have KD4 := Lib.hid (KD3.out.belowS hb4)
  clear d0 d1 d2 d3 d4 d5 d6 f0 f1 hltB hltD hb4
  have hltB := KB4.out.lt
  have hltD := KD4.out.lt
  obtain ⟨d0, d1, d2, d3, d4, d5, d6⟩ := hep_cells KD4.out
  obtain ⟨f0, f1⟩ := frm_cells KB4.out
  cases h7 : cropsB F.ps h.crop h.parts with
  | false =>
    have hv : heapB F.ps h = false := by simp [heapB, h7]
    have HV := Lib.hid hv
    clear hv h7
    go_wp2_with fail
    go_ret
    exact ⟨by rw [HV.out]; rfl, HB4.out⟩
  | true =>
  have G7 := Lib.hid h7
  clear h7
  have hv : heapB F.ps h = if h.stage = 3 then isFromB h.per 1 100 && (loadsM h.parts % h.per == 0) else h.per == 0 := by
    rw [heapB, G1.out, G2.out, G3.out, G4.out, G6.out, G7.out]
    simp [G5.out]
  by_cases h8 : h.stage = 3
  · rw [if_pos h8] at hv
    have q8 : (h.stage == 3) = true := by simp [h8]
    have q8' : (h.stage != 3) = false := by simp [h8]
    have HV := Lib.hid hv
    clear hv h8
    go_upto_region 9 with fail
    have hx : HeldH w4 (w.heap.size + 1) h w4.drew := ⟨(Below.refl _ _).drew, hep_cells (KD4.out.drew)⟩
    cases h9 : isFromB h.per 1 100 with
    | false =>
      have hv2 : heapB F.ps h = false := by rw [HV.out, h9]; rfl
      have HV2 := Lib.hid hv2
      have H9 := Lib.hid h9
      clear hv2 h9
      go_quiet (first | (go_at_call 13; with_reducible refine Calls.quiet_of_same (isFrom_is H9.out _)))
      go_wp2_with fail
      go_ret
      exact ⟨by rw [HV2.out]; rfl, HB4.out.trans (below_drewN' _ _ _)⟩
    | true =>
      have hv2 : heapB F.ps h = (loadsM h.parts % h.per == 0) := by rw [HV.out, h9]; rfl
      have HV2 := Lib.hid hv2
      have hper := isFromB_iff.1 h9
      have H9 := Lib.hid h9
      obtain ⟨hp1, hp2⟩ := hper
      have hp0 : ¬ h.per = 0 := by omega
      have hp0' : (h.per == 0) = false := by simp [hp0]
      have htm : (loadsM h.parts).tmod h.per = loadsM h.parts % h.per := Int.tmod_eq_emod_of_nonneg HBD.out.1
      obtain ⟨hl1, hl2⟩ := HBD.out
      clear hv2 h9
      go_region_held3 (fun w' => Below w4.heap.size w4 w' ∧ (w'.cell? ⟨w.heap.size + 1, 0, none⟩ = some (.string h.name) ∧ w'.cell? ⟨w.heap.size + 1, 1, none⟩ = some (.int .i64 h.crop) ∧ w'.cell? ⟨w.heap.size + 1, 2, none⟩ = some (.int .i64 h.stage) ∧ w'.cell? ⟨w.heap.size + 1, 3, none⟩ = some (.slice h.pa h.parts.length h.pc) ∧
          w'.cell? ⟨w.heap.size + 1, 4, none⟩ = some (.int .i64 h.per) ∧ w'.cell? ⟨w.heap.size + 1, 5, none⟩ = some (.int .i64 h.wlo) ∧ w'.cell? ⟨w.heap.size + 1, 6, none⟩ = some (.int .i64 h.whi)))
        (first | (with_reducible exact hx) | (with_reducible refine HeldH.step ?_ hltD hb5; with_reducible assumption) | (with_reducible assumption))
        (first | (go_at_call 13; (with_reducible refine (isFrom_is H9.out _).mono ?_); rintro r w3 ⟨rfl, rfl⟩) | (go_at_call 63; (refine (loadsOf_any F.ps.length h.pa h.pc h.parts _ (HS.out.belowS (HB4.out.trans ((And.left (by with_reducible assumption) : Below w4.heap.size w4 _).mono HB4.out.size))) HOK.out hpl).mono ?_); rintro r w5 ⟨rfl, hb5⟩))
      go_wp2_with fail
      go_ret
      exact ⟨by rw [HV2.out]; rfl, HB4.out.trans ((And.left (by with_reducible assumption) : Below w4.heap.size w4 _).mono HB4.out.size)⟩
  · rw [if_neg h8] at hv
    have q8 : (h.stage == 3) = false := by simp [h8]
    have q8' : (h.stage != 3) = true := by simp [h8]
    have HV := Lib.hid hv
    clear hv h8
    go_wp2_with fail
    go_ret
    exact ⟨by rw [HV.out]; rfl, HB4.out⟩
end
end Go.Proofs.Ytghepojnimlafaa
namespace Go.Proofs.Ytghepojnimlafaa
section
open Go.RowKit

def yearsB (n : Nat) (year : Int) (last : List Int) : Bool := isFromB year 0 100 && (decide (last.length = n) && last.all fun x => isFromB x (-1) year)
theorem sto_cells {W : World} {B : Nat} {S : Sto} {t : TypeId} (k : Blk W B (stoC S) t) : W.cell? ⟨B, 0, none⟩ = some (.int .i64 S.year) ∧ W.cell? ⟨B, 1, none⟩ = some (.slice S.la S.last.length S.lc) ∧ W.cell? ⟨B, 2, none⟩ = some (.slice S.ga S.given.length S.gc) ∧
    W.cell? ⟨B, 3, none⟩ = some (.slice S.ha S.heaps.length S.hc) ∧ W.cell? ⟨B, 4, none⟩ = some (.slice S.ua S.used.length S.uc) ∧ W.cell? ⟨B, 5, none⟩ = some (.slice S.wa S.waste.length S.wc) := ⟨k.cell 0, k.cell 1, k.cell 2, k.cell 3, k.cell 4, k.cell 5⟩

set_option maxRecDepth 100000 in
set_option maxHeartbeats 4000000 in
theorem areYears_any (F : Frm) (S : Sto) (w : World) (hF : IsFarm w F) (hS : IsNums w S.la S.lc S.last) :
    Calls Try.prog 38 #[.agg #[.slice F.pa F.ps.length F.pc, .int .i64 F.dry], stoV S] w fun e w' => e = .returned (.bool (yearsB F.ps.length S.year S.last)) ∧ Below w.heap.size w w' := by
  obtain ⟨year, la, lc, last, ga, gc, given, ha, hc, heaps, ua, uc, used, wa, wc, waste⟩ := S
  unfold stoV
  dsimp only at hS ⊢
  have hfl := IsFarm.len hF
  have hll := hS.len
  have HS := Lib.hid hS
  clear hF hS
  have kB := (Blk.new w 24 (frmC F)).alloc (.cells (stoC ⟨year, la, lc, last, ga, gc, given, ha, hc, heaps, ua, uc, used, wa, wc, waste⟩) 45)
  have kD := Blk.new (w.alloc (.cells (frmC F) 24)) 45 (stoC ⟨year, la, lc, last, ga, gc, given, ha, hc, heaps, ua, uc, used, wa, wc, waste⟩)
  have hB : Below w.heap.size w ((w.alloc (.cells (frmC F) 24)).alloc (.cells (stoC ⟨year, la, lc, last, ga, gc, given, ha, hc, heaps, ua, uc, used, wa, wc, waste⟩) 45)) := ((Below.refl _ w).alloc (by simp) _).alloc (by simp) _
  simp only [World.size_alloc] at kD
  unfold frmC stoC at kB kD hB
  go_enter Try.func38, Try.ntmps38
  go_upto_region 1 with fail
  generalize ((w.alloc (.cells #[.slice F.pa F.ps.length F.pc, .int .i64 F.dry] 24)).alloc (.cells #[.int .i64 year, .slice la last.length lc, .slice ga given.length gc, .slice ha heaps.length hc, .slice ua used.length uc, .slice wa waste.length wc] 45)) = w1 at *
  have hltB := kB.lt
  have hltD := kD.lt
  have KD := Lib.hid kD
  obtain ⟨d0, d1, d2, d3, d4, d5⟩ := sto_cells kD
  dsimp only at d0 d1 d2 d3 d4 d5
  obtain ⟨f0, f1⟩ := frm_cells kB
  clear kB kD
  go_wp2_with fail
  refine (isFrom_any year 0 100 _).mono ?_
  rintro e w2 ⟨rfl, rfl⟩
  cases h1 : isFromB year 0 100 with
  | false =>
    have hv : yearsB F.ps.length year last = false := by simp [yearsB, h1]
    have HV := Lib.hid hv
    clear hv h1
    go_wp2_with fail
    go_ret
    exact ⟨by rw [HV.out]; rfl, hB⟩
  | true =>
  have G1 := Lib.hid h1
  clear h1
  by_cases h2 : last.length = F.ps.length
  · have q2 : ((last.length : Int) == (F.ps.length : Int)) = true := by simp [h2]
    have q2' : ((last.length : Int) != (F.ps.length : Int)) = false := by simp [h2]
    have G2 := Lib.hid h2
    clear h2
    go_wp2_with fail
    go_loopw [23, 6] (fun i _ wr => ∃ j : Nat, j ≤ last.length ∧ i = .int .i64 j ∧ (∀ k, k < j → ∀ x, last[k]? = some x → isFromB x (-1) year = true) ∧ wr = w1) (fun i _ _ => last.length - (intOf i).toNat)
    case atStart => exact ⟨0, Nat.zero_le _, rfl, fun k h => by omega, rfl⟩
    case round =>
      obtain ⟨j, hj, rfl, hall, rfl⟩ := hrel
      have HA := Lib.hid hall
      clear hall
      by_cases hlj : j < last.length
      · have hq : last[j]? = some last[j] := List.getElem?_eq_getElem hlj
        obtain ⟨b, off, hea, hblt, hcap, hcx, p0⟩ := (HS.out.belowS hB).at hq
        have hmem := List.getElem_mem hlj
        have p0' : wr.cell? ⟨b, off + j * 1, none⟩ = some (.int .i64 last[j]) := p0
        rw [Nat.mul_one] at p0'
        generalize last[j] = q at *
        subst hea
        have HQ := Lib.hid hq
        have HM := Lib.hid hmem
        clear hq hmem p0
        have hj0 : (0 : Int) ≤ (j : Int) := Int.natCast_nonneg _
        have hj1 : (j : Int) < (last.length : Int) := by omega
        go_wp2_with fail
        refine (isFrom_any q (-1) year _).mono ?_
        rintro e w2 ⟨rfl, rfl⟩
        cases h3 : isFromB q (-1) year with
        | false =>
          have hv : yearsB F.ps.length year last = false := by
            have : (last.all fun x => isFromB x (-1) year) = false := by
              rw [Bool.eq_false_iff]
              intro k
              have := List.all_eq_true.1 k q HM.out
              rw [h3] at this
              cases this
            simp [yearsB, this]
          have HV := Lib.hid hv
          clear hv h3
          go_wp2_with fail
          go_ret
          exact ⟨by rw [HV.out]; rfl, hB⟩
        | true =>
          have H3 := Lib.hid h3
          clear h3
          go_wp2_with fail
          refine ⟨⟨j + 1, by omega, by simp, fun k hk x hx => ?_, trivial⟩, by simp [intOf]; omega⟩
          by_cases hkj : k = j
          · subst hkj
            rw [HQ.out] at hx
            cases hx
            exact H3.out
          · exact HA.out k (by omega) x hx
      · obtain rfl : j = last.length := by omega
        have hv : yearsB F.ps.length year last = true := by
          have : (last.all fun x => isFromB x (-1) year) = true := List.all_eq_true.2 fun x hx => by
            obtain ⟨i, hi, rfl⟩ := List.getElem_of_mem hx
            exact HA.out i hi _ (List.getElem?_eq_getElem hi)
          rw [yearsB, G1.out, this]
          simp [G2.out]
        have HV := Lib.hid hv
        clear hv
        go_wp2_with fail
        go_ret
        exact ⟨by rw [HV.out]; rfl, hB⟩
  · have q2 : ((last.length : Int) == (F.ps.length : Int)) = false := by simp; exact fun e => h2 (by omega)
    have q2' : ((last.length : Int) != (F.ps.length : Int)) = true := by simp; exact fun e => h2 (by omega)
    have hv : yearsB F.ps.length year last = false := by simp [yearsB, h2]
    have HV := Lib.hid hv
    clear hv h2
    go_wp2_with fail
    go_ret
    exact ⟨by rw [HV.out]; rfl, hB⟩

theorem findHeap_is {a : Option Addr} {cap n : Nat} {l : List Hep} {nm : ByteArray} {v : Int} (hv : idxH l nm = v) (hn : l.length = n) (w : World) (hs : IsHeps w a cap l) :
    Calls Try.prog 47 #[.slice a n cap, .string nm] w fun e w' => e = .returned (.int .i64 v) ∧ Below w.heap.size w w' := by
  subst hn hv
  exact findHeap_any a cap l nm w hs
theorem isHeap_is {F : Frm} {h : Hep} {b : Bool} (hb : heapB F.ps h = b) (w : World) (hF : IsFarm w F) (hs : IsPrts w h.pa h.pc h.parts) (hnm : h.name.size ≤ maxLen) (hlen : F.ps.length ≤ 12) (hpl : h.parts.length ≤ 1000) :
    Calls Try.prog 48 #[.agg #[.slice F.pa F.ps.length F.pc, .int .i64 F.dry], .agg #[.string h.name, .int .i64 h.crop, .int .i64 h.stage, .slice h.pa h.parts.length h.pc, .int .i64 h.per, .int .i64 h.wlo, .int .i64 h.whi]] w
      fun e w' => e = .returned (.bool b) ∧ Below w.heap.size w w' := by
  subst hb
  exact isHeap_any F h w hF hs hnm hlen hpl

def heapAt (ps : List Plt) (l : List Hep) (i : Nat) : Bool := match l[i]? with
  | some h => !(decide (0 ≤ idxH (l.take i) h.name)) && heapB ps h
  | none => true
def heapsB (ps : List Plt) (l : List Hep) : Bool := decide (l.length ≤ 16) && (List.range l.length).all (heapAt ps l)
theorem heapsB_no {ps : List Plt} {l : List Hep} {i : Nat} (hi : i < l.length) (h : heapAt ps l i = false) : heapsB ps l = false := by
  rw [Bool.eq_false_iff]
  intro k
  simp only [heapsB, Bool.and_eq_true] at k
  have := List.all_eq_true.1 k.2 i (by simpa using hi)
  rw [h] at this
  cases this
theorem heapsB_yes {ps : List Plt} {l : List Hep} (hl : l.length ≤ 16) (h : ∀ i, i < l.length → heapAt ps l i = true) : heapsB ps l = true := by
  simp only [heapsB, Bool.and_eq_true]
  exact ⟨by simpa using hl, List.all_eq_true.2 fun i hi => h i (by simpa using hi)⟩

abbrev HeldG (W : World) (B : Nat) (F : Frm) (D : Nat) (h : Hep) (w : World) : Prop := Below W.heap.size W w ∧ ((w.cell? ⟨B, 0, none⟩ = some (.slice F.pa F.ps.length F.pc) ∧ w.cell? ⟨B, 1, none⟩ = some (.int .i64 F.dry)) ∧
  (w.cell? ⟨D, 0, none⟩ = some (.string h.name) ∧ w.cell? ⟨D, 1, none⟩ = some (.int .i64 h.crop) ∧ w.cell? ⟨D, 2, none⟩ = some (.int .i64 h.stage) ∧ w.cell? ⟨D, 3, none⟩ = some (.slice h.pa h.parts.length h.pc) ∧
    w.cell? ⟨D, 4, none⟩ = some (.int .i64 h.per) ∧ w.cell? ⟨D, 5, none⟩ = some (.int .i64 h.wlo) ∧ w.cell? ⟨D, 6, none⟩ = some (.int .i64 h.whi)))
theorem HeldG.step {W w w' : World} {B D : Nat} {F : Frm} {h : Hep} (k : HeldG W B F D h w) (hB : B < W.heap.size) (hD : D < W.heap.size) (hb : Below w.heap.size w w') : HeldG W B F D h w' := by
  have hs := k.1.size
  have c : ∀ i, w'.cell? ⟨D, i, none⟩ = w.cell? ⟨D, i, none⟩ := fun i => hb.cell (p := ⟨D, i, none⟩) (Nat.lt_of_lt_of_le hD hs)
  have c' : ∀ i, w'.cell? ⟨B, i, none⟩ = w.cell? ⟨B, i, none⟩ := fun i => hb.cell (p := ⟨B, i, none⟩) (Nat.lt_of_lt_of_le hB hs)
  obtain ⟨h0, ⟨b0, b1⟩, a0, a1, a2, a3, a4, a5, a6⟩ := k
  exact ⟨h0.trans (hb.mono hs), ⟨(c' _).trans b0, (c' _).trans b1⟩, (c _).trans a0, (c _).trans a1, (c _).trans a2, (c _).trans a3, (c _).trans a4, (c _).trans a5, (c _).trans a6⟩

set_option maxRecDepth 100000 in
set_option maxHeartbeats 4000000 in
theorem areHeaps_any (F : Frm) (a : Option Addr) (c : Nat) (l : List Hep) (w : World) (hF : IsFarm w F) (hs : IsHeps w a c l) (hlen : F.ps.length ≤ 12) (hpl : ∀ h ∈ l, h.parts.length ≤ 1000) :
    Calls Try.prog 39 #[.agg #[.slice F.pa F.ps.length F.pc, .int .i64 F.dry], .slice a l.length c] w fun e w' => e = .returned (.bool (heapsB F.ps l)) ∧ Below w.heap.size w w' := by
  have hll := hs.len
  have HS := Lib.hid hs
  have HF := Lib.hid hF
  have HPL := Lib.hid hpl
  clear hF hs hpl
  have kB := Blk.new w 24 (frmC F)
  have hB : Below w.heap.size w (w.alloc (.cells (frmC F) 24)) := (Below.refl _ w).alloc (by simp) _
  unfold frmC at kB hB
  by_cases h16 : 16 < l.length
  · have hv : heapsB F.ps l = false := by
      have : decide (l.length ≤ 16) = false := decide_eq_false (by omega)
      rw [heapsB, this, Bool.false_and]
    have HV := Lib.hid hv
    have q16 : (16 : Int) < (l.length : Int) := by omega
    clear hv h16
    go_enter Try.func39, Try.ntmps39
    go_wp2_with fail
    go_ret
    exact ⟨by rw [HV.out]; rfl, hB⟩
  have q16 : ¬ (16 : Int) < (l.length : Int) := by omega
  go_enter Try.func39, Try.ntmps39
  go_wp2_with fail
  go_loopw [12, 5, 6] (fun i _ _ wr => ∃ j : Nat, j ≤ l.length ∧ i = .int .i64 j ∧ (∀ k, k < j → heapAt F.ps l k = true) ∧ Blk wr w.heap.size #[.slice F.pa F.ps.length F.pc, .int .i64 F.dry] 24 ∧ Below w.heap.size w wr) (fun i _ _ _ => l.length - (intOf i).toNat)
  case atStart => exact ⟨0, Nat.zero_le _, rfl, fun k h => by omega, kB, hB⟩
  case round =>
    obtain ⟨j, hj, rfl, hall, g1, g2⟩ := hrel
    have HA := Lib.hid hall
    clear hall kB hB
    by_cases hlj : j < l.length
    · have hq : l[j]? = some l[j] := List.getElem?_eq_getElem hlj
      have hpj := HPL.out _ (List.getElem_mem hlj)
      have hat : heapAt F.ps l j = (!(decide (0 ≤ idxH (l.take j) l[j].name)) && heapB F.ps l[j]) := by rw [heapAt, hq]
      obtain ⟨b, off, hea, hblt, hcap, hcx, ⟨c0, c1, c2, c3, c4, c5, c6⟩, hpp, hnm⟩ := (HS.out.belowS g2).at hq
      subst hea
      generalize l[j] = h at *
      have HAT := Lib.hid hat
      have HPP := Lib.hid hpp
      clear hq hat hpp
      have hj0 : (0 : Int) ≤ (j : Int) := Int.natCast_nonneg _
      have hj1 : (j : Int) < (l.length : Int) := by omega
      have hj2 : (j : Int) ≤ (c : Int) := by omega
      have htl : (l.take j).length = j := take_len_of hj
      have kD := Blk.new wr 77 (hepC h)
      have kB1 := g1.alloc (.cells (hepC h) 77)
      have hb1 : Below wr.heap.size wr (wr.alloc (.cells (hepC h) 77)) := (Below.refl _ wr).alloc (Nat.le_refl _) _
      unfold hepC at kD kB1 hb1
      go_upto_region 6 with fail
      generalize wr.alloc (.cells #[.string h.name, .int .i64 h.crop, .int .i64 h.stage, .slice h.pa h.parts.length h.pc, .int .i64 h.per, .int .i64 h.wlo, .int .i64 h.whi] 77) = w1 at kD kB1 hb1 ⊢
      have HB1 := Lib.hid (g2.trans (hb1.mono g2.size))
      have HSw := Lib.hid (show IsHeps w1 _ c (l.take j) from IsRow.pre (HS.out.belowS HB1.out) j)
      have hltB := kB1.lt
      have hltD := kD.lt
      obtain ⟨d0, d1, d2, d3, d4, d5, d6⟩ := hep_cells kD
      obtain ⟨f0, f1⟩ := frm_cells kB1
      have HFw := Lib.hid (HF.out.below HB1.out)
      have HPw := Lib.hid (HPP.out.belowS hb1)
      have hx : HeldG w1 w.heap.size F wr.heap.size h w1.drew := ⟨(Below.refl _ _).drew, frm_cells kB1.drew, hep_cells kD.drew⟩
      have KB1 := Lib.hid kB1
      have KD1 := Lib.hid kD
      clear c0 c1 c2 c3 c4 c5 c6 g1 kB1 kD hb1
      go_cut [29] from 17 to 30 (fun s29 wx => s29 = .bool (!heapAt F.ps l j) ∧ Below w1.heap.size w1 wx)
      case first =>
        cases hf : (l.take j).findIdx? (fun x => strB x.name h.name) with
        | some k =>
          have hid : idxH (l.take j) h.name = (k : Int) := by rw [idxH, hf]
          have hk0 : (0 : Int) ≤ (k : Int) := Int.natCast_nonneg _
          have hno : heapAt F.ps l j = false := by rw [HAT.out, hid]; simp
          have HNO := Lib.hid hno
          have HID := Lib.hid hid
          clear hno hid hf
          go_region_with (go_at_call 47; refine (findHeap_is HID.out htl _ (HSw.out.belowS (Below.refl _ _).drew)).mono ?_; rintro e w2 ⟨rfl, hb2⟩)
          all_goals
            go_wp2_with fail
            go_meet
            exact ⟨by rw [HNO.out]; rfl, (Below.refl _ _).drew.trans (hb2.mono (Nat.le_refl _))⟩
        | none =>
          have hid : idxH (l.take j) h.name = -1 := by rw [idxH, hf]
          have hh : heapAt F.ps l j = heapB F.ps h := by rw [HAT.out, hid]; simp
          have HH := Lib.hid hh
          have HID := Lib.hid hid
          clear hh hid hf
          go_region_with (first
            | (go_at_call 47; refine (findHeap_is HID.out htl _ (HSw.out.belowS (Below.refl _ _).drew)).mono ?_; rintro e w2 ⟨rfl, hb2⟩; have hb2 := (Below.refl w1.heap.size w1).drew.trans hb2; have kB2 := KB1.out.belowS hb2; have kD2 := KD1.out.belowS hb2; have l2 := kB2.lt; have l3 := kD2.lt; obtain ⟨z0, z1, z2, z3, z4, z5, z6⟩ := hep_cells kD2; obtain ⟨y0, y1⟩ := frm_cells kB2; clear kB2 kD2)
            | (go_at_call 48; refine (isHeap_any F h _ (HFw.out.below hb2) (HPw.out.belowS hb2) hnm hlen hpj).mono ?_; rintro e w3 ⟨rfl, hb3⟩))
          all_goals
            go_wp2_with fail
            go_meet
            exact ⟨by rw [HH.out], hb2.trans (hb3.mono hb2.size)⟩
      case rest =>
        obtain ⟨rfl, hcx2⟩ := hcut
        obtain ⟨w4, rfl⟩ : ∃ w4 : World, w4 = wc := ⟨_, rfl⟩
        have HB4 := Lib.hid (HB1.out.trans (hcx2.mono HB1.out.size))
        have kF4 := KB1.out.belowS hcx2
        cases hpa : heapAt F.ps l j with
        | false =>
          have hv := heapsB_no hlj hpa
          have HV := Lib.hid hv
          clear hv hpa
          go_wp2_with fail
          go_ret
          exact ⟨by rw [HV.out]; rfl, HB4.out⟩
        | true =>
          have HPA := Lib.hid hpa
          clear hpa
          go_wp2_with fail
          refine ⟨⟨j + 1, by omega, by simp, fun k hk => ?_, kF4, HB4.out⟩, by simp [intOf]; omega⟩
          by_cases hkj : k = j
          · subst hkj; exact HPA.out
          · exact HA.out k (by omega)
    · obtain rfl : j = l.length := by omega
      have hv := heapsB_yes (by omega) HA.out
      have HV := Lib.hid hv
      clear hv
      go_wp2_with fail
      go_ret
      exact ⟨by rw [HV.out]; rfl, g2⟩
end
end Go.Proofs.Ytghepojnimlafaa
namespace Go.Proofs.Ytghepojnimlafaa
section
open Go.RowKit

/-- A row of numbers. -/
def rowI (n : Nat) (g : Nat → Int) : Array Value := ((List.range n).map fun k => Value.int .i64 (g k)).toArray
theorem rowI_at {n : Nat} {g : Nat → Int} {k : Nat} (h : k < n) : (rowI n g)[k]? = some (.int .i64 (g k)) := by simp [rowI, h]
theorem rowI_set (n : Nat) (g : Nat → Int) (j : Nat) (x : Int) : (rowI n g).setIfInBounds j (.int .i64 x) = rowI n (fun k => if k = j then x else g k) := by
  apply Array.ext_getElem?
  intro i
  rw [Array.getElem?_setIfInBounds]
  unfold rowI
  by_cases hi : i < n
  · by_cases hj : j = i
    · subst hj; simp [hi]
    · simp [hi, hj, show ¬ i = j from fun h => hj h.symm]
  · by_cases hj : j = i
    · subst hj; simp [hi]
    · simp [hi, hj]
theorem rowI_made4 (n : Nat) : madeCells (Value.agg #[.int .i64 0, .int .i64 0, .int .i64 0, .int .i64 0]).cells (n * 4) = rowI (n * 4) (fun _ => 0) := by
  apply Array.ext_getElem?
  intro i
  unfold madeCells rowI
  by_cases hi : i < n * 4
  · have h4 : i % 4 = 0 ∨ i % 4 = 1 ∨ i % 4 = 2 ∨ i % 4 = 3 := by omega
    rcases h4 with h | h | h | h <;> simp [hi, Value.cells, h]
  · simp [hi, Value.cells]
/-- The cells of counts, one behind the other. -/
def cntF (G U L Z : Nat → Int) (i : Nat) : Int := if i % 4 = 0 then G (i / 4) else if i % 4 = 1 then U (i / 4) else if i % 4 = 2 then L (i / 4) else Z (i / 4)
theorem cntF_0 (G U L Z : Nat → Int) (k : Nat) : cntF G U L Z (k * 4) = G k := by unfold cntF; rw [if_pos (by omega), show k * 4 / 4 = k by omega]
theorem cntF_1 (G U L Z : Nat → Int) (k : Nat) : cntF G U L Z (k * 4 + 1) = U k := by unfold cntF; rw [if_neg (by omega), if_pos (by omega), show (k * 4 + 1) / 4 = k by omega]
theorem cntF_2 (G U L Z : Nat → Int) (k : Nat) : cntF G U L Z (k * 4 + 2) = L k := by unfold cntF; rw [if_neg (by omega), if_neg (by omega), if_pos (by omega), show (k * 4 + 2) / 4 = k by omega]
theorem cntF_3 (G U L Z : Nat → Int) (k : Nat) : cntF G U L Z (k * 4 + 3) = Z k := by unfold cntF; rw [if_neg (by omega), if_neg (by omega), if_neg (by omega), show (k * 4 + 3) / 4 = k by omega]
def upd (g : Nat → Int) (j : Nat) (x : Int) : Nat → Int := fun k => if k = j then x else g k
theorem cntF_set0 (G U L Z : Nat → Int) (n j : Nat) (x : Int) : (rowI n (cntF G U L Z)).setIfInBounds (j * 4) (.int .i64 x) = rowI n (cntF (upd G j x) U L Z) := by
  rw [rowI_set]
  congr 1
  funext k
  by_cases hk : k = j * 4
  · subst hk
    rw [if_pos rfl, cntF_0, upd, if_pos rfl]
  · rw [if_neg hk]
    have h4 : k % 4 = 0 ∨ k % 4 = 1 ∨ k % 4 = 2 ∨ k % 4 = 3 := by omega
    unfold cntF upd
    rcases h4 with h | h | h | h
    all_goals first | (simp [h]; done) | (have hne : k / 4 ≠ j := by omega
                                          simp [h, hne])
theorem cntF_set1 (G U L Z : Nat → Int) (n j : Nat) (x : Int) : (rowI n (cntF G U L Z)).setIfInBounds (j * 4 + 1) (.int .i64 x) = rowI n (cntF G (upd U j x) L Z) := by
  rw [rowI_set]
  congr 1
  funext k
  by_cases hk : k = j * 4 + 1
  · subst hk
    rw [if_pos rfl, cntF_1, upd, if_pos rfl]
  · rw [if_neg hk]
    have h4 : k % 4 = 0 ∨ k % 4 = 1 ∨ k % 4 = 2 ∨ k % 4 = 3 := by omega
    unfold cntF upd
    rcases h4 with h | h | h | h
    all_goals first | (simp [h]; done) | (have hne : k / 4 ≠ j := by omega
                                          simp [h, hne])
theorem cntF_set2 (G U L Z : Nat → Int) (n j : Nat) (x : Int) : (rowI n (cntF G U L Z)).setIfInBounds (j * 4 + 2) (.int .i64 x) = rowI n (cntF G U (upd L j x) Z) := by
  rw [rowI_set]
  congr 1
  funext k
  by_cases hk : k = j * 4 + 2
  · subst hk
    rw [if_pos rfl, cntF_2, upd, if_pos rfl]
  · rw [if_neg hk]
    have h4 : k % 4 = 0 ∨ k % 4 = 1 ∨ k % 4 = 2 ∨ k % 4 = 3 := by omega
    unfold cntF upd
    rcases h4 with h | h | h | h
    all_goals first | (simp [h]; done) | (have hne : k / 4 ≠ j := by omega
                                          simp [h, hne])
theorem cntF_set3 (G U L Z : Nat → Int) (n j : Nat) (x : Int) : (rowI n (cntF G U L Z)).setIfInBounds (j * 4 + 3) (.int .i64 x) = rowI n (cntF G U L (upd Z j x)) := by
  rw [rowI_set]
  congr 1
  funext k
  by_cases hk : k = j * 4 + 3
  · subst hk
    rw [if_pos rfl, cntF_3, upd, if_pos rfl]
  · rw [if_neg hk]
    have h4 : k % 4 = 0 ∨ k % 4 = 1 ∨ k % 4 = 2 ∨ k % 4 = 3 := by omega
    unfold cntF upd
    rcases h4 with h | h | h | h
    all_goals first | (simp [h]; done) | (have hne : k / 4 ≠ j := by omega
                                          simp [h, hne])
theorem cntF_zero : (fun _ => 0 : Nat → Int) = cntF (fun _ => 0) (fun _ => 0) (fun _ => 0) (fun _ => 0) := by
  funext k
  unfold cntF
  split <;> (try rfl) <;> split <;> (try rfl) <;> split <;> rfl

def givenAt (l : List Int) (k : Nat) : Int := l[k]?.getD 0
theorem upd_given {l : List Int} {j : Nat} {x : Int} (h : l[j]? = some x) : upd (givenAt (l.take j)) j x = givenAt (l.take (j + 1)) := by
  funext k
  unfold upd givenAt
  by_cases hk : k = j
  · subst hk
    rw [if_pos rfl, List.getElem?_take, if_pos (by omega), h]
    rfl
  · rw [if_neg hk, List.getElem?_take, List.getElem?_take]
    by_cases hkj : k < j
    · rw [if_pos hkj, if_pos (by omega)]
    · rw [if_neg hkj, if_neg (by omega)]
theorem upd_of {l : List Prt} {p : Prt} {j m : Nat} (h : l[j]? = some p) (hp : p.plot = (m : Int)) : upd (fun k => ofM k (l.take j)) m (ofM m (l.take j) + p.loads) = fun (k : Nat) => ofM k (l.take (j + 1)) := by
  funext k
  unfold upd
  rw [take_snoc' h, ofM_append]
  by_cases hk : k = m
  · subst hk
    rw [if_pos rfl]
    simp only [ofM, hp, if_true]
    omega
  · rw [if_neg hk]
    simp only [ofM]
    rw [if_neg (by omega)]
    omega
theorem upd_ofL {l : List Prt} {L : Nat → Int} {p : Prt} {j m : Nat} (h : l[j]? = some p) (hp : p.plot = (m : Int)) : upd (fun k => L k + ofM k (l.take j)) m (L m + ofM m (l.take j) + p.loads) = fun (k : Nat) => L k + ofM k (l.take (j + 1)) := by
  have := upd_of h hp
  funext k
  have := congrFun this k
  unfold upd at this ⊢
  by_cases hk : k = m
  · subst hk
    rw [if_pos rfl] at this ⊢
    omega
  · rw [if_neg hk] at this ⊢
    have this' : ofM k (l.take j) = ofM k (l.take (j + 1)) := this
    show L k + ofM k (l.take j) = _
    rw [this']
theorem leftM_bd {n : Nat} (i : Int) {l : List Hep} (h : ∀ x ∈ l, ∀ p ∈ x.parts, p.ok n) (hl : ∀ x ∈ l, x.parts.length ≤ 1000) : 0 ≤ leftM i l ∧ leftM i l ≤ 100000000 * l.length := by
  induction l with
  | nil => simp [leftM]
  | cons x l ih =>
    have h1 := ofM_bd i (h x (by simp))
    have h2 := hl x (by simp)
    obtain ⟨h3, h4⟩ := ih (fun q hq => h q (by simp [hq])) (fun q hq => hl q (by simp [hq]))
    simp only [leftM, List.length_cons]
    push_cast
    omega

theorem info_count : ((Try.prog : Program).info? 54).map (fun i => (i.zero, i.size, i.bytes)) = some (some (.agg #[.int .i64 0, .int .i64 0, .int .i64 0, .int .i64 0]), 4, 32) := by kernel_rfl

set_option maxRecDepth 100000 in
set_option maxHeartbeats 8000000 in
theorem ledgerOf_any (n : Nat) (year : Int) (la ga ha ua wa : Option Addr) (lc gc hc uc wc ll : Nat) (given : List Int) (heaps : List Hep) (used waste : List Prt) (w : World) (hG : IsNums w ga gc given) (hH : IsHeps w ha hc heaps) (hU : IsPrts w ua uc used) (hW : IsPrts w wa wc waste)
    (hgl : given.length = n) (hn : n ≤ 12) (huk : ∀ p ∈ used, p.ok n) (hul : used.length ≤ 1000) (hwk : ∀ p ∈ waste, p.ok n) (hwl : waste.length ≤ 1000) (hhk : ∀ h ∈ heaps, ∀ p ∈ h.parts, p.ok n) (hhp : ∀ h ∈ heaps, h.parts.length ≤ 1000) (hhl : heaps.length ≤ 1000) :
    Calls Try.prog 18 #[.agg #[.int .i64 year, .slice la ll lc, .slice ga given.length gc, .slice ha heaps.length hc, .slice ua used.length uc, .slice wa waste.length wc]] w
      fun e w' => (∃ K, e = .returned (.slice (some ⟨K, 0, none⟩) n n) ∧ Blk w' K (rowI (n * 4) (cntF (givenAt given) (fun k => ofM k used) (fun k => leftM k heaps) (fun k => ofM k waste))) 54) ∧ Below w.heap.size w w' := by
  subst hgl
  obtain ⟨i0, hi, hz0, hz1, hz2⟩ := info_parts info_count
  have HG := Lib.hid hG
  have HH := Lib.hid hH
  have HU := Lib.hid hU
  have HW := Lib.hid hW
  have HUK := Lib.hid huk
  have HWK := Lib.hid hwk
  have HHK := Lib.hid hhk
  have HHP := Lib.hid hhp
  clear hG hH hU hW huk hwk hhk hhp
  have kB := Blk.new w 45 #[.int .i64 year, .slice la ll lc, .slice ga given.length gc, .slice ha heaps.length hc, .slice ua used.length uc, .slice wa waste.length wc]
  have hB : Below w.heap.size w (w.alloc (.cells #[.int .i64 year, .slice la ll lc, .slice ga given.length gc, .slice ha heaps.length hc, .slice ua used.length uc, .slice wa waste.length wc] 45)) := (Below.refl _ w).alloc (by simp) _
  go_enter Try.func18, Try.ntmps18
  go_upto_region 1 with fail
  generalize w.alloc (.cells #[.int .i64 year, .slice la ll lc, .slice ga given.length gc, .slice ha heaps.length hc, .slice ua used.length uc, .slice wa waste.length wc] 45) = w1 at *
  have hmk := fun w => run_make (P := Try.prog) w 50 54 i0 (.agg #[.int .i64 0, .int .i64 0, .int .i64 0, .int .i64 0]) Try.underlying50 hi hz0 .i64 .i64 (given.length : Int) (given.length : Int) (by omega) (by omega) (by rw [hz2]; omega) (by omega)
  simp only [Int.toNat_natCast, hz1, rowI_made4] at hmk
  have hltB := kB.lt
  have d2 : w1.cell? ⟨w.heap.size, 2, none⟩ = some (.slice ga given.length gc) := kB.cell 2
  go_upto_region 2 with (rw [hmk])
  clear hmk
  have kA := Blk.new w1 54 (rowI (given.length * 4) (fun _ => 0))
  have hb2 : Below w1.heap.size w1 (w1.alloc (.cells (rowI (given.length * 4) (fun _ => 0)) 54)) := (Below.refl _ _).alloc (Nat.le_refl _) _
  have kB2 := Lib.hid (kB.belowS hb2)
  generalize w1.alloc (.cells (rowI (given.length * 4) (fun _ => 0)) 54) = w2 at *
  rw [cntF_zero] at kA
  have KB := Lib.hid kB
  have hKB := kB.lt
  have HB := Lib.hid hB
  have lB2 := kB2.out.lt
  have d2' := kB2.out.cell 2
  simp only [List.getElem?_toArray, List.getElem?_cons_zero, List.getElem?_cons_succ] at d2'
  clear d2 kB hltB
  go_wp2_with fail
  go_loopw [21, 4, 5] (fun i _ _ wr => ∃ j : Nat, j ≤ given.length ∧ i = .int .i64 j ∧ Blk wr w1.heap.size (rowI (given.length * 4) (cntF (givenAt (given.take j)) (fun _ => 0) (fun _ => 0) (fun _ => 0))) 54 ∧ Below w1.heap.size w1 wr) (fun i _ _ _ => given.length - (intOf i).toNat)
  case atStart => exact ⟨0, Nat.zero_le _, rfl, by rw [show givenAt (given.take 0) = fun _ => 0 from by funext k; simp [givenAt]]; exact kA, hb2⟩
  case round =>
    obtain ⟨j, hj, rfl, g1, g2⟩ := hrel
    clear kA hb2 d2' lB2
    by_cases hlj : j < given.length
    · have hq : given[j]? = some given[j] := List.getElem?_eq_getElem hlj
      obtain ⟨b, off, hea, hblt, hcap, hcx, p0⟩ := (HG.out.belowS (HB.out.trans (g2.mono HB.out.size))).at hq
      have p0' : wr.cell? ⟨b, off + j * 1, none⟩ = some (.int .i64 given[j]) := p0
      rw [Nat.mul_one] at p0'
      have hup := upd_given hq
      generalize given[j] = q at *
      subst hea
      have HUP := Lib.hid hup
      clear hq p0 hup
      have hj0 : (0 : Int) ≤ (j : Int) := Int.natCast_nonneg _
      have hj1 : (j : Int) < (given.length : Int) := by omega
      have a2 := (g1.cell (j * 4)).trans (rowI_at (by omega))
      have a3 := g1.frozen (j * 4)
      have lA := g1.lt
      rw [cntF_0] at a2
      go_wp2_with fail
      refine ⟨⟨j + 1, by omega, by simp, ?_, g2.setCell (p := ⟨w1.heap.size, j * 4, none⟩) (Nat.le_refl _) _⟩, by simp [intOf]; omega⟩
      have := g1.set (j * 4) (.int .i64 q)
      rw [cntF_set0, HUP.out] at this
      exact this
    · obtain rfl : j = given.length := by omega
      rw [List.take_length] at g1
      have kB3 := KB.out.belowS g2
      have d4 := kB3.cell 4
      have lB3 := kB3.lt
      simp only [List.getElem?_toArray, List.getElem?_cons_zero, List.getElem?_cons_succ] at d4
      clear kB3
      have g3 := g2
      obtain ⟨wz, rfl⟩ : ∃ wz : World, wz = wr := ⟨_, rfl⟩
      go_wp2_with fail
      go_loopw [35, 7] (fun i _ wr => ∃ j : Nat, j ≤ used.length ∧ i = .int .i64 j ∧ Blk wr w1.heap.size (rowI (given.length * 4) (cntF (givenAt given) (fun k => ofM k (used.take j)) (fun _ => 0) (fun _ => 0))) 54 ∧ Below w1.heap.size w1 wr) (fun i _ _ => used.length - (intOf i).toNat)
      case atStart => exact ⟨0, Nat.zero_le _, rfl, by simp only [List.take_zero, ofM]; exact g1, g3⟩
      case round =>
        obtain ⟨j, hj, rfl, h1, h2⟩ := hrel
        by_cases hlj : j < used.length
        · have hq : used[j]? = some used[j] := List.getElem?_eq_getElem hlj
          have hp := HUK.out _ (List.getElem_mem hlj)
          obtain ⟨b, off, hea, hblt, hcap, hcx, p0, p1⟩ := (HU.out.belowS (HB.out.trans (h2.mono HB.out.size))).at hq
          generalize used[j] = p at *
          obtain ⟨pl, ld⟩ := p
          obtain ⟨⟨y0, y1⟩, y2, y3⟩ := hp
          dsimp only at y0 y1 y2 y3 p0 p1
          obtain ⟨m, rfl⟩ : ∃ m : Nat, pl = (m : Int) := ⟨pl.toNat, by omega⟩
          have hup := upd_of hq (rfl : (Prt.mk (m : Int) ld).plot = (m : Int))
          have hbd := ofM_bd m (ok_take HUK.out j)
          rw [take_len_of hj] at hbd
          obtain ⟨y4, y5⟩ := hbd
          try dsimp only at hup
          subst hea
          have HUP := Lib.hid hup
          clear hq hup
          have hj0 : (0 : Int) ≤ (j : Int) := Int.natCast_nonneg _
          have hj1 : (j : Int) < (used.length : Int) := by omega
          have hb3 : Below wr.heap.size wr (wr.alloc (.cells #[.int .i64 (m : Int), .int .i64 ld] 80)) := (Below.refl _ _).alloc (Nat.le_refl _) _
          have kP := Blk.new wr 80 #[.int .i64 (m : Int), .int .i64 ld]
          have h4 := h1.belowS hb3
          have h5 := h2.trans (hb3.mono h2.size)
          go_upto_region 10 with fail
          generalize wr.alloc (.cells #[.int .i64 (m : Int), .int .i64 ld] 80) = W3 at *
          have lP := kP.lt
          have lA := h4.lt
          have e0 := kP.cell 0
          have e1 := kP.cell 1
          simp only [List.getElem?_toArray, List.getElem?_cons_zero, List.getElem?_cons_succ] at e0 e1
          have a2 := (h4.cell (m * 4 + 1)).trans (rowI_at (by omega))
          rw [cntF_1] at a2
          have a3 := h4.frozen (m * 4 + 1)
          clear h1 h2 hb3 kP p0 p1
          go_still_tail 11, (by kernel_rfl)
          change wpList _ _ _ _ _ W3.drew
          have h6 := h4.drew
          have h7 := h5.drew
          generalize W3.drew = W4 at *
          have a4 := (h6.cell (m * 4 + 1)).trans (rowI_at (by omega))
          rw [cntF_1] at a4
          have a5 := h6.frozen (m * 4 + 1)
          have lA6 := h6.lt
          go_wp2_with fail
          refine ⟨⟨j + 1, by omega, by simp, ?_, h7.setCell (p := ⟨w1.heap.size, m * 4 + 1, none⟩) (Nat.le_refl _) _⟩, by simp [intOf]; omega⟩
          have := h6.set (m * 4 + 1) (.int .i64 (ofM m (used.take j) + ld))
          rw [cntF_set1] at this
          rw [HUP.out] at this
          exact this
        · obtain rfl : j = used.length := by omega
          rw [List.take_length] at h1
          have kB3 := KB.out.belowS h2
          have d4 := kB3.cell 3
          have lB3 := kB3.lt
          simp only [List.getElem?_toArray, List.getElem?_cons_zero, List.getElem?_cons_succ] at d4
          clear kB3
          have g3 := h2
          have g1 := h1
          clear h1 h2
          obtain ⟨wz, rfl⟩ : ∃ wz : World, wz = wr := ⟨_, rfl⟩
          go_wp2_with fail
          go_loopw [54, 9, 61, 11] (fun i _ _ _ wr => ∃ t : Nat, t ≤ heaps.length ∧ i = .int .i64 t ∧ Blk wr w1.heap.size (rowI (given.length * 4) (cntF (givenAt given) (fun k => ofM k used) (fun k => leftM k (heaps.take t)) (fun _ => 0))) 54 ∧ Below w1.heap.size w1 wr) (fun i _ _ _ _ => heaps.length - (intOf i).toNat)
          case atStart => exact ⟨0, Nat.zero_le _, rfl, by simp only [List.take_zero, leftM]; exact g1, g3⟩
          case round =>
            obtain ⟨t, ht, rfl, x1, x2⟩ := hrel
            by_cases hlt : t < heaps.length
            · have hq : heaps[t]? = some heaps[t] := List.getElem?_eq_getElem hlt
              have hhk := HHK.out _ (List.getElem_mem hlt)
              have hpw : IsPrts w heaps[t].pa heaps[t].pc heaps[t].parts := by obtain ⟨_, _, _, _, _, _, _, z, _⟩ := HH.out.at hq; exact z
              have hpl := HHP.out _ (List.getElem_mem hlt)
              have hsn : (fun k : Nat => leftM k (heaps.take t) + ofM k heaps[t].parts) = fun k : Nat => leftM k (heaps.take (t + 1)) := by funext k; rw [take_snoc' hq, leftM_append]; simp [leftM]
              obtain ⟨b, off, hea, hblt, hcap, hcx, ⟨c0, c1, c2, c3, c4, c5, c6⟩, hpp, _⟩ := (HH.out.belowS (HB.out.trans (x2.mono HB.out.size))).at hq
              subst hea
              generalize heaps[t] = h at *
              obtain ⟨hnm, hcr, hst, pa, pc, parts, hper, hwlo, hwhi⟩ := h
              dsimp only at hhk hpl hsn hpw c0 c1 c2 c3 c4 c5 c6 hpp
              have HSN := Lib.hid hsn
              have HPPW := Lib.hid hpw
              have HPK := Lib.hid hhk
              clear hq hsn hpp hhk hpw
              have ht0 : (0 : Int) ≤ (t : Int) := Int.natCast_nonneg _
              have ht1 : (t : Int) < (heaps.length : Int) := by omega
              have hb3 : Below wr.heap.size wr (wr.alloc (.cells #[.string hnm, .int .i64 hcr, .int .i64 hst, .slice pa parts.length pc, .int .i64 hper, .int .i64 hwlo, .int .i64 hwhi] 77)) := (Below.refl _ _).alloc (Nat.le_refl _) _
              have kH := Blk.new wr 77 #[.string hnm, .int .i64 hcr, .int .i64 hst, .slice pa parts.length pc, .int .i64 hper, .int .i64 hwlo, .int .i64 hwhi]
              have x4 := x1.belowS hb3
              have x5 := x2.trans (hb3.mono x2.size)
              go_upto_region 15 with fail
              generalize wr.alloc (.cells #[.string hnm, .int .i64 hcr, .int .i64 hst, .slice pa parts.length pc, .int .i64 hper, .int .i64 hwlo, .int .i64 hwhi] 77) = W3 at *
              have lH := kH.lt
              have e3 := kH.cell 3
              simp only [List.getElem?_toArray, List.getElem?_cons_zero, List.getElem?_cons_succ] at e3
              have KX := Lib.hid x4
              have HX5 := Lib.hid x5
              clear x1 x2 hb3 kH c0 c1 c2 c3 c4 c5 c6
              obtain ⟨wq, rfl⟩ : ∃ wq : World, wq = wr := ⟨_, rfl⟩
              go_wp2_with fail
              go_loopw [61, 11] (fun i _ wr => ∃ j : Nat, j ≤ parts.length ∧ i = .int .i64 j ∧ Blk wr w1.heap.size (rowI (given.length * 4) (cntF (givenAt given) (fun k => ofM k used) (fun k => leftM k (heaps.take t) + ofM k (parts.take j)) (fun _ => 0))) 54 ∧ Below w1.heap.size w1 wr) (fun i _ _ => parts.length - (intOf i).toNat)
              case atStart => exact ⟨0, Nat.zero_le _, rfl, by simp only [List.take_zero, ofM, Int.add_zero]; exact KX.out, HX5.out⟩
              case round =>
                obtain ⟨j, hj, rfl, h1, h2⟩ := hrel
                by_cases hlj : j < parts.length
                · have hq : parts[j]? = some parts[j] := List.getElem?_eq_getElem hlj
                  have hp := HPK.out _ (List.getElem_mem hlj)
                  obtain ⟨b, off, hea, hblt, hcap, hcx, p0, p1⟩ := (HPPW.out.belowS (HB.out.trans (h2.mono HB.out.size))).at hq
                  generalize parts[j] = p at *
                  obtain ⟨pl, ld⟩ := p
                  obtain ⟨⟨y0, y1⟩, y2, y3⟩ := hp
                  dsimp only at y0 y1 y2 y3 p0 p1
                  obtain ⟨m, rfl⟩ : ∃ m : Nat, pl = (m : Int) := ⟨pl.toNat, by omega⟩
                  have hup := upd_ofL (L := fun k => leftM k (heaps.take t)) hq (rfl : (Prt.mk (m : Int) ld).plot = (m : Int))
                  have hbd := ofM_bd m (ok_take HPK.out j)
                  rw [take_len_of hj] at hbd
                  obtain ⟨y4, y5⟩ := hbd
                  try dsimp only at hup
                  subst hea
                  have HUP := Lib.hid hup
                  clear hq hup
                  have hj0 : (0 : Int) ≤ (j : Int) := Int.natCast_nonneg _
                  have hj1 : (j : Int) < (parts.length : Int) := by omega
                  have hb3 : Below wr.heap.size wr (wr.alloc (.cells #[.int .i64 (m : Int), .int .i64 ld] 80)) := (Below.refl _ _).alloc (Nat.le_refl _) _
                  have kP := Blk.new wr 80 #[.int .i64 (m : Int), .int .i64 ld]
                  have h4 := h1.belowS hb3
                  have h5 := h2.trans (hb3.mono h2.size)
                  go_upto_region 18 with fail
                  generalize wr.alloc (.cells #[.int .i64 (m : Int), .int .i64 ld] 80) = W3 at *
                  have lP := kP.lt
                  have lA := h4.lt
                  have e0 := kP.cell 0
                  have e1 := kP.cell 1
                  simp only [List.getElem?_toArray, List.getElem?_cons_zero, List.getElem?_cons_succ] at e0 e1
                  have a2 := (h4.cell (m * 4 + 2)).trans (rowI_at (by omega))
                  rw [cntF_2] at a2
                  have a3 := h4.frozen (m * 4 + 2)
                  clear h1 h2 hb3 kP p0 p1
                  have hlb := leftM_bd (n := given.length) m (l := heaps.take t) (fun x hx => HHK.out x (List.mem_of_mem_take hx)) (fun x hx => HHP.out x (List.mem_of_mem_take hx))
                  obtain ⟨y6, y7⟩ := hlb
                  rw [List.length_take] at y7
                  have y8 : leftM (m : Int) (heaps.take t) ≤ 100000000000 := by omega
                  go_still_tail 11, (by kernel_rfl)
                  change wpList _ _ _ _ _ W3.drew
                  have h6 := h4.drew
                  have h7 := h5.drew
                  generalize W3.drew = W4 at *
                  have a4 := (h6.cell (m * 4 + 2)).trans (rowI_at (by omega))
                  rw [cntF_2] at a4
                  have a5 := h6.frozen (m * 4 + 2)
                  have lA6 := h6.lt
                  go_wp2_with fail
                  refine ⟨⟨j + 1, by omega, by simp, ?_, h7.setCell (p := ⟨w1.heap.size, m * 4 + 2, none⟩) (Nat.le_refl _) _⟩, by simp [intOf]; omega⟩
                  have := h6.set (m * 4 + 2) (.int .i64 (leftM m (heaps.take t) + ofM m (parts.take j) + ld))
                  rw [cntF_set2] at this
                  rw [HUP.out] at this
                  exact this
                · obtain rfl : j = parts.length := by omega
                  rw [List.take_length] at h1
                  rw [HSN.out] at h1
                  have g5 := h2
                  have g6 := h1
                  clear h1 h2
                  go_wp2_with fail
                  exact ⟨⟨t + 1, by omega, by simp, g6, g5⟩, by simp [intOf]; omega⟩
            · obtain rfl : t = heaps.length := by omega
              rw [List.take_length] at x1
              have h1 := x1
              have h2 := x2
              clear x1 x2
              have kB3 := KB.out.belowS h2
              have d4 := kB3.cell 5
              have lB3 := kB3.lt
              simp only [List.getElem?_toArray, List.getElem?_cons_zero, List.getElem?_cons_succ] at d4
              clear kB3
              have g3 := h2
              have g1 := h1
              clear h1 h2
              obtain ⟨wz, rfl⟩ : ∃ wz : World, wz = wr := ⟨_, rfl⟩
              go_wp2_with fail
              go_loopw [81, 13] (fun i _ wr => ∃ j : Nat, j ≤ waste.length ∧ i = .int .i64 j ∧ Blk wr w1.heap.size (rowI (given.length * 4) (cntF (givenAt given) (fun k => ofM k used) (fun k => leftM k heaps) (fun k => ofM k (waste.take j)))) 54 ∧ Below w1.heap.size w1 wr) (fun i _ _ => waste.length - (intOf i).toNat)
              case atStart => exact ⟨0, Nat.zero_le _, rfl, by simp only [List.take_zero, ofM]; exact g1, g3⟩
              case round =>
                obtain ⟨j, hj, rfl, h1, h2⟩ := hrel
                by_cases hlj : j < waste.length
                · have hq : waste[j]? = some waste[j] := List.getElem?_eq_getElem hlj
                  have hp := HWK.out _ (List.getElem_mem hlj)
                  obtain ⟨b, off, hea, hblt, hcap, hcx, p0, p1⟩ := (HW.out.belowS (HB.out.trans (h2.mono HB.out.size))).at hq
                  generalize waste[j] = p at *
                  obtain ⟨pl, ld⟩ := p
                  obtain ⟨⟨y0, y1⟩, y2, y3⟩ := hp
                  dsimp only at y0 y1 y2 y3 p0 p1
                  obtain ⟨m, rfl⟩ : ∃ m : Nat, pl = (m : Int) := ⟨pl.toNat, by omega⟩
                  have hup := upd_of hq (rfl : (Prt.mk (m : Int) ld).plot = (m : Int))
                  have hbd := ofM_bd m (ok_take HWK.out j)
                  rw [take_len_of hj] at hbd
                  obtain ⟨y4, y5⟩ := hbd
                  try dsimp only at hup
                  subst hea
                  have HUP := Lib.hid hup
                  clear hq hup
                  have hj0 : (0 : Int) ≤ (j : Int) := Int.natCast_nonneg _
                  have hj1 : (j : Int) < (waste.length : Int) := by omega
                  have hb3 : Below wr.heap.size wr (wr.alloc (.cells #[.int .i64 (m : Int), .int .i64 ld] 80)) := (Below.refl _ _).alloc (Nat.le_refl _) _
                  have kP := Blk.new wr 80 #[.int .i64 (m : Int), .int .i64 ld]
                  have h4 := h1.belowS hb3
                  have h5 := h2.trans (hb3.mono h2.size)
                  go_upto_region 24 with fail
                  generalize wr.alloc (.cells #[.int .i64 (m : Int), .int .i64 ld] 80) = W3 at *
                  have lP := kP.lt
                  have lA := h4.lt
                  have e0 := kP.cell 0
                  have e1 := kP.cell 1
                  simp only [List.getElem?_toArray, List.getElem?_cons_zero, List.getElem?_cons_succ] at e0 e1
                  have a2 := (h4.cell (m * 4 + 3)).trans (rowI_at (by omega))
                  rw [cntF_3] at a2
                  have a3 := h4.frozen (m * 4 + 3)
                  clear h1 h2 hb3 kP p0 p1
                  go_still_tail 11, (by kernel_rfl)
                  change wpList _ _ _ _ _ W3.drew
                  have h6 := h4.drew
                  have h7 := h5.drew
                  generalize W3.drew = W4 at *
                  have a4 := (h6.cell (m * 4 + 3)).trans (rowI_at (by omega))
                  rw [cntF_3] at a4
                  have a5 := h6.frozen (m * 4 + 3)
                  have lA6 := h6.lt
                  go_wp2_with fail
                  refine ⟨⟨j + 1, by omega, by simp, ?_, h7.setCell (p := ⟨w1.heap.size, m * 4 + 3, none⟩) (Nat.le_refl _) _⟩, by simp [intOf]; omega⟩
                  have := h6.set (m * 4 + 3) (.int .i64 (ofM m (waste.take j) + ld))
                  rw [cntF_set3] at this
                  rw [HUP.out] at this
                  exact this
                · obtain rfl : j = waste.length := by omega
                  rw [List.take_length] at h1
                  have h3 := HB.out.trans (h2.mono HB.out.size)
                  go_wp2_with fail
                  go_ret
                  exact ⟨⟨_, rfl, h1⟩, h3⟩
end
end Go.Proofs.Ytghepojnimlafaa
