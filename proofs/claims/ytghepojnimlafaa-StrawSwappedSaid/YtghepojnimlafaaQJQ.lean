/- The specification's sameInts, SameParts: of equal lists. isBalanced, mayBe, CheckStore: whether a store may be of a farm. The specification's SameStore: of equal stores. What a chore leaves of a store's rows: kept, taken out, put in. -/
import Derived.Test.YtghepojnimlafaaQGG
import Derived.Test.YtghepojnimlafaaQGC
namespace Go.Proofs.Ytghepojnimlafaa
section
open Go.RowKit
end
end Go.Proofs.Ytghepojnimlafaa
namespace Go.Proofs.Ytghepojnimlafaa
section
open Go.RowKit

/-- What of a field is somewhere. -/
def thereM (used : List Prt) (heaps : List Hep) (waste : List Prt) (i : Nat) : Int := ofM i used + leftM i heaps + ofM i waste
def balB (n : Nat) (given : List Int) (used : List Prt) (heaps : List Hep) (waste : List Prt) : Bool :=
  decide (given.length = n) && ((List.range n).all (fun i => givenAt given i == thereM used heaps waste i) && decide (sumN (thereM used heaps waste) n ≤ 100000))
theorem there_bd {n : Nat} {used waste : List Prt} {heaps : List Hep} (huk : ∀ p ∈ used, p.ok n) (hul : used.length ≤ 1000) (hwk : ∀ p ∈ waste, p.ok n) (hwl : waste.length ≤ 1000) (hhk : ∀ h ∈ heaps, ∀ p ∈ h.parts, p.ok n) (hhp : ∀ h ∈ heaps, h.parts.length ≤ 1000) (hhl : heaps.length ≤ 1000) (i : Nat) :
    (0 ≤ ofM i used ∧ ofM i used ≤ 100000000) ∧ (0 ≤ leftM i heaps ∧ leftM i heaps ≤ 100000000000) ∧ (0 ≤ ofM i waste ∧ ofM i waste ≤ 100000000) := by
  have h1 := ofM_bd i huk
  have h2 := ofM_bd i hwk
  have h3 := leftM_bd i hhk hhp
  omega
theorem sumN_bd {f : Nat → Int} {m : Int} (n : Nat) (h : ∀ i, 0 ≤ f i ∧ f i ≤ m) : 0 ≤ sumN f n ∧ sumN f n ≤ m * n := by
  induction n with
  | zero => simp [sumN]
  | succ n ih =>
    have := h n
    simp only [sumN]
    push_cast
    rw [Int.mul_add]
    omega

set_option maxRecDepth 100000 in
set_option maxHeartbeats 8000000 in
theorem isBalanced_any (F : Frm) (year : Int) (la ga ha ua wa : Option Addr) (lc gc hc uc wc ll : Nat) (given : List Int) (heaps : List Hep) (used waste : List Prt) (w : World) (hG : IsNums w ga gc given) (hH : IsHeps w ha hc heaps) (hU : IsPrts w ua uc used) (hW : IsPrts w wa wc waste)
    (hn : F.ps.length ≤ 12) (huk : ∀ p ∈ used, p.ok F.ps.length) (hul : used.length ≤ 1000) (hwk : ∀ p ∈ waste, p.ok F.ps.length) (hwl : waste.length ≤ 1000) (hhk : ∀ h ∈ heaps, ∀ p ∈ h.parts, p.ok F.ps.length) (hhp : ∀ h ∈ heaps, h.parts.length ≤ 1000) (hhl : heaps.length ≤ 1000) :
    Calls Try.prog 41 #[.agg #[.slice F.pa F.ps.length F.pc, .int .i64 F.dry], .agg #[.int .i64 year, .slice la ll lc, .slice ga given.length gc, .slice ha heaps.length hc, .slice ua used.length uc, .slice wa waste.length wc]] w
      fun e w' => e = .returned (.bool (balB F.ps.length given used heaps waste)) ∧ Below w.heap.size w w' := by
  have hbd := there_bd huk hul hwk hwl hhk hhp hhl
  have hgl := hG.len
  have HBD := Lib.hid hbd
  have HG := Lib.hid hG
  have HH := Lib.hid hH
  have HU := Lib.hid hU
  have HW := Lib.hid hW
  have HUK := Lib.hid huk
  have HWK := Lib.hid hwk
  have HHK := Lib.hid hhk
  have HHP := Lib.hid hhp
  clear hG hH hU hW huk hwk hhk hhp hbd
  have kB := (Blk.new w 24 (frmC F)).alloc (.cells #[.int .i64 year, .slice la ll lc, .slice ga given.length gc, .slice ha heaps.length hc, .slice ua used.length uc, .slice wa waste.length wc] 45)
  have kD := Blk.new (w.alloc (.cells (frmC F) 24)) 45 #[.int .i64 year, .slice la ll lc, .slice ga given.length gc, .slice ha heaps.length hc, .slice ua used.length uc, .slice wa waste.length wc]
  have hB : Below w.heap.size w ((w.alloc (.cells (frmC F) 24)).alloc (.cells #[.int .i64 year, .slice la ll lc, .slice ga given.length gc, .slice ha heaps.length hc, .slice ua used.length uc, .slice wa waste.length wc] 45)) := ((Below.refl _ w).alloc (by simp) _).alloc (by simp) _
  simp only [World.size_alloc] at kD
  unfold frmC at kB kD hB
  go_enter Try.func41, Try.ntmps41
  go_upto_region 1 with fail
  generalize ((w.alloc (.cells #[.slice F.pa F.ps.length F.pc, .int .i64 F.dry] 24)).alloc (.cells #[.int .i64 year, .slice la ll lc, .slice ga given.length gc, .slice ha heaps.length hc, .slice ua used.length uc, .slice wa waste.length wc] 45)) = w1 at *
  have hltB := kB.lt
  have hltD := kD.lt
  obtain ⟨f0, f1⟩ := frm_cells kB
  have d0 := kD.cell 0
  have d1 := kD.cell 1
  have d2 := kD.cell 2
  have d3 := kD.cell 3
  have d4 := kD.cell 4
  have d5 := kD.cell 5
  simp only [List.getElem?_toArray, List.getElem?_cons_zero, List.getElem?_cons_succ] at d0 d1 d2 d3 d4 d5
  clear kB kD
  by_cases h1 : given.length = F.ps.length
  · have q1 : ((given.length : Int) == (F.ps.length : Int)) = true := by simp [h1]
    have q1' : ((given.length : Int) != (F.ps.length : Int)) = false := by simp [h1]
    have H1 := Lib.hid h1
    have hg12 : given.length ≤ 12 := by omega
    clear h1
    go_wp2_with fail
    refine (ledgerOf_any given.length year la ga ha ua wa lc gc hc uc wc ll given heaps used waste _ (HG.out.belowS hB) (HH.out.belowS hB) (HU.out.belowS hB) (HW.out.belowS hB) rfl hg12 (H1.out ▸ HUK.out) hul (H1.out ▸ HWK.out) hwl (H1.out ▸ HHK.out) HHP.out hhl).mono ?_
    rintro e w2 ⟨⟨K, rfl, kK⟩, hb2⟩
    have HB2 := Lib.hid (hB.trans (hb2.mono hB.size))
    clear d0 d1 d2 d3 d4 d5 f0 f1 hltB hltD hB hb2
    go_wp2_with fail
    go_loopw [19, 5, 7, 8] (fun i s _ _ wr => ∃ (j : Nat) (v : Int), j ≤ given.length ∧ i = .int .i64 j ∧ s = .int .i64 v ∧ v = sumN (thereM used heaps waste) j ∧ (∀ k, k < j → givenAt given k = thereM used heaps waste k) ∧ Below w2.heap.size w2 wr) (fun i _ _ _ _ => given.length - (intOf i).toNat)
    case atStart => exact ⟨0, 0, Nat.zero_le _, rfl, rfl, rfl, fun k h => by omega, Below.refl _ _⟩
    case round =>
      obtain ⟨j, v, hj, rfl, rfl, hv, hall, g2⟩ := hrel
      have HV := Lib.hid hv
      have HA := Lib.hid hall
      clear hall hv
      by_cases hlj : j < given.length
      · have kr := kK.belowS g2
        obtain ⟨⟨u0, u1⟩, ⟨l0, l1⟩, z0, z1⟩ := HBD.out j
        have hsb := sumN_bd (f := thereM used heaps waste) (m := 200000000000) j (fun i => by obtain ⟨⟨u0, u1⟩, ⟨l0, l1⟩, z0, z1⟩ := HBD.out i; unfold thereM; omega)
        rw [← HV.out] at hsb
        obtain ⟨s0, s1⟩ := hsb
        have c0 := (kr.cell (j * 4)).trans (rowI_at (by omega))
        have c1 := (kr.cell (j * 4 + 1)).trans (rowI_at (by omega))
        have c2 := (kr.cell (j * 4 + 2)).trans (rowI_at (by omega))
        have c3 := (kr.cell (j * 4 + 3)).trans (rowI_at (by omega))
        rw [cntF_0] at c0
        rw [cntF_1] at c1
        rw [cntF_2] at c2
        rw [cntF_3] at c3
        have hth : thereM used heaps waste j = ofM j used + leftM j heaps + ofM j waste := rfl
        generalize hu : ofM (j : Int) used = u at *
        generalize hl : leftM (j : Int) heaps = le at *
        generalize hz : ofM (j : Int) waste = z at *
        generalize hgg : givenAt given j = g at *
        have HTH := Lib.hid hth
        have HGG := Lib.hid hgg
        have lK := kr.lt
        have hj0 : (0 : Int) ≤ (j : Int) := Int.natCast_nonneg _
        have hj1 : (j : Int) < (given.length : Int) := by omega
        have s2 : v ≤ 200000000000 * 12 := by omega
        clear hu hl hz hth hgg kr
        have hb3 : Below wr.heap.size wr (wr.alloc (.cells #[.int .i64 g, .int .i64 u, .int .i64 le, .int .i64 z] 54)) := (Below.refl _ _).alloc (Nat.le_refl _) _
        by_cases he : g = u + le + z
        · have q2 : (g == u + le + z) = true := by simp [he]
          have q3 : (g != u + le + z) = false := by simp [he]
          have HE := Lib.hid he
          clear he
          go_wp2_with fail
          refine ⟨⟨j + 1, _, by omega, by simp, rfl, ?_, fun k hk => ?_, g2.trans (hb3.mono g2.size)⟩, by simp [intOf]; omega⟩
          · show _ = sumN _ j + thereM used heaps waste j
            rw [← HV.out, HTH.out]
          · by_cases hkj : k = j
            · subst hkj
              rw [HGG.out, HTH.out]
              exact HE.out
            · exact HA.out k (by omega)
        · have q2 : (g == u + le + z) = false := by simp [he]
          have q3 : (g != u + le + z) = true := by simp [he]
          have hvv : balB F.ps.length given used heaps waste = false := by
            have : ((List.range F.ps.length).all fun i => givenAt given i == thereM used heaps waste i) = false := by
              rw [Bool.eq_false_iff]
              intro k
              have := List.all_eq_true.1 k j (by rw [← H1.out]; simpa using hlj)
              rw [HGG.out, HTH.out, q2] at this
              cases this
            rw [balB, this]
            simp
          have HVV := Lib.hid hvv
          clear he hvv
          go_wp2_with fail
          go_ret
          exact ⟨by rw [HVV.out]; rfl, HB2.out.trans ((g2.trans (hb3.mono g2.size)).mono HB2.out.size)⟩
      · obtain rfl : j = given.length := by omega
        have hvv : balB F.ps.length given used heaps waste = decide (v ≤ 100000) := by
          have : ((List.range F.ps.length).all fun i => givenAt given i == thereM used heaps waste i) = true := List.all_eq_true.2 fun i hi => by
            rw [HA.out i (by rw [H1.out]; simpa using hi)]
            simp
          rw [balB, this, HV.out, H1.out]
          simp
        have HVV := Lib.hid hvv
        clear hvv
        go_wp2_with fail
        go_ret
        exact ⟨by rw [HVV.out]; rfl, HB2.out.trans (g2.mono HB2.out.size)⟩
  · have q1 : ((given.length : Int) == (F.ps.length : Int)) = false := by simp; exact fun e => h1 (by omega)
    have q1' : ((given.length : Int) != (F.ps.length : Int)) = true := by simp; exact fun e => h1 (by omega)
    have hv : balB F.ps.length given used heaps waste = false := by simp [balB, h1]
    have HV := Lib.hid hv
    clear hv h1
    go_wp2_with fail
    go_ret
    exact ⟨by rw [HV.out]; rfl, hB⟩

structure Sto.fit (S : Sto) : Prop where
  used : S.used.length ≤ 1000
  waste : S.waste.length ≤ 1000
  heaps : S.heaps.length ≤ 1000
  parts : ∀ h ∈ S.heaps, h.parts.length ≤ 1000
def mayB (ps : List Plt) (S : Sto) : Bool := yearsB ps.length S.year S.last && (heapsB ps S.heaps && (partsB ps.length S.used && (partsB ps.length S.waste && balB ps.length S.given S.used S.heaps S.waste)))
theorem heapsB_heap {ps : List Plt} {l : List Hep} (k : heapsB ps l = true) : ∀ h ∈ l, heapB ps h = true := by
  simp only [heapsB, Bool.and_eq_true] at k
  intro h hh
  obtain ⟨i, hi, rfl⟩ := List.getElem_of_mem hh
  have := List.all_eq_true.1 k.2 i (by simpa using hi)
  rw [heapAt, List.getElem?_eq_getElem hi] at this
  simp only [Bool.and_eq_true] at this
  exact this.2

set_option maxRecDepth 100000 in
set_option maxHeartbeats 8000000 in
theorem mayBe_any (F : Frm) (S : Sto) (w : World) (hF : IsFarm w F) (hS : IsStore w S) (hn : F.ps.length ≤ 12) (hfit : S.fit) :
    Calls Try.prog 25 #[.agg #[.slice F.pa F.ps.length F.pc, .int .i64 F.dry], stoV S] w fun e w' => e = .returned (.bool (mayB F.ps S)) ∧ Below w.heap.size w w' := by
  have HF := Lib.hid hF
  have HS := Lib.hid hS
  have HFI := Lib.hid hfit
  clear hF hS hfit
  unfold stoV
  have kB := (Blk.new w 24 (frmC F)).alloc (.cells (stoC S) 45)
  have kD := Blk.new (w.alloc (.cells (frmC F) 24)) 45 (stoC S)
  have hB : Below w.heap.size w ((w.alloc (.cells (frmC F) 24)).alloc (.cells (stoC S) 45)) := ((Below.refl _ w).alloc (by simp) _).alloc (by simp) _
  simp only [World.size_alloc] at kD
  unfold frmC stoC at kB kD hB
  go_enter Try.func25, Try.ntmps25
  go_upto_region 1 with fail
  generalize ((w.alloc (.cells #[.slice F.pa F.ps.length F.pc, .int .i64 F.dry] 24)).alloc (.cells #[.int .i64 S.year, .slice S.la S.last.length S.lc, .slice S.ga S.given.length S.gc, .slice S.ha S.heaps.length S.hc, .slice S.ua S.used.length S.uc, .slice S.wa S.waste.length S.wc] 45)) = w1 at *
  have lF0 := kB.lt
  have lS0 := kD.lt
  obtain ⟨f0, f1⟩ := frm_cells kB
  obtain ⟨d0, d1, d2, d3, d4, d5⟩ := sto_cells kD
  have HB0 := Lib.hid hB
  have KB0 := Lib.hid kB
  have KD0 := Lib.hid kD
  clear kB kD hB
  go_wp2_with fail
  refine (areYears_any F S _ (HF.out.below HB0.out) (HS.out.below HB0.out).last).mono ?_
  rintro e w2 ⟨rfl, hb⟩
  have hB1 := HB0.out.trans (hb.mono HB0.out.size)
  have kB1 := KB0.out.belowS hb
  have kD1 := KD0.out.belowS hb
  obtain ⟨w3, rfl⟩ : ∃ w3 : World, w3 = w2 := ⟨_, rfl⟩
  clear d0 d1 d2 d3 d4 d5 f0 f1 lF0 lS0 hb
  cases g0 : yearsB F.ps.length S.year S.last with
  | false =>
    have hv : mayB F.ps S = false := by simp [mayB, g0]
    have HV := Lib.hid hv
    clear hv g0
    go_wp2_with fail
    go_ret
    exact ⟨by rw [HV.out]; rfl, hB1⟩
  | true =>
  have G0 := Lib.hid g0
  clear g0
  have lF1 := kB1.lt
  have lS1 := kD1.lt
  obtain ⟨f0, f1⟩ := frm_cells kB1
  obtain ⟨d0, d1, d2, d3, d4, d5⟩ := sto_cells kD1
  have HB1 := Lib.hid hB1
  have KB1 := Lib.hid kB1
  have KD1 := Lib.hid kD1
  clear kB1 kD1 hB1
  go_wp2_with fail
  refine (areHeaps_any F S.ha S.hc S.heaps _ (HF.out.below HB1.out) (HS.out.below HB1.out).heaps hn HFI.out.parts).mono ?_
  rintro e w2 ⟨rfl, hb⟩
  have hB2 := HB1.out.trans (hb.mono HB1.out.size)
  have kB2 := KB1.out.belowS hb
  have kD2 := KD1.out.belowS hb
  obtain ⟨w3, rfl⟩ : ∃ w3 : World, w3 = w2 := ⟨_, rfl⟩
  clear d0 d1 d2 d3 d4 d5 f0 f1 lF1 lS1 hb
  cases g1 : heapsB F.ps S.heaps with
  | false =>
    have hv : mayB F.ps S = false := by simp [mayB, g1]
    have HV := Lib.hid hv
    clear hv g1
    go_wp2_with fail
    go_ret
    exact ⟨by rw [HV.out]; rfl, hB2⟩
  | true =>
  have G1 := Lib.hid g1
  clear g1
  have lF2 := kB2.lt
  have lS2 := kD2.lt
  obtain ⟨f0, f1⟩ := frm_cells kB2
  obtain ⟨d0, d1, d2, d3, d4, d5⟩ := sto_cells kD2
  have HB2 := Lib.hid hB2
  have KB2 := Lib.hid kB2
  have KD2 := Lib.hid kD2
  clear kB2 kD2 hB2
  go_wp2_with fail
  refine (areParts_any F S.ua S.uc S.used _ hn (HS.out.below HB2.out).used).mono ?_
  rintro e w2 ⟨rfl, hb⟩
  have hB3 := HB2.out.trans (hb.mono HB2.out.size)
  have kB3 := KB2.out.belowS hb
  have kD3 := KD2.out.belowS hb
  obtain ⟨w3, rfl⟩ : ∃ w3 : World, w3 = w2 := ⟨_, rfl⟩
  clear d0 d1 d2 d3 d4 d5 f0 f1 lF2 lS2 hb
  cases g2 : partsB F.ps.length S.used with
  | false =>
    have hv : mayB F.ps S = false := by simp [mayB, g2]
    have HV := Lib.hid hv
    clear hv g2
    go_wp2_with fail
    go_ret
    exact ⟨by rw [HV.out]; rfl, hB3⟩
  | true =>
  have G2 := Lib.hid g2
  clear g2
  have lF3 := kB3.lt
  have lS3 := kD3.lt
  obtain ⟨f0, f1⟩ := frm_cells kB3
  obtain ⟨d0, d1, d2, d3, d4, d5⟩ := sto_cells kD3
  have HB3 := Lib.hid hB3
  have KB3 := Lib.hid kB3
  have KD3 := Lib.hid kD3
  clear kB3 kD3 hB3
  go_wp2_with fail
  refine (areParts_any F S.wa S.wc S.waste _ hn (HS.out.below HB3.out).waste).mono ?_
  rintro e w2 ⟨rfl, hb⟩
  have hB4 := HB3.out.trans (hb.mono HB3.out.size)
  have kB4 := KB3.out.belowS hb
  have kD4 := KD3.out.belowS hb
  obtain ⟨w3, rfl⟩ : ∃ w3 : World, w3 = w2 := ⟨_, rfl⟩
  clear d0 d1 d2 d3 d4 d5 f0 f1 lF3 lS3 hb
  cases g3 : partsB F.ps.length S.waste with
  | false =>
    have hv : mayB F.ps S = false := by simp [mayB, g3]
    have HV := Lib.hid hv
    clear hv g3
    go_wp2_with fail
    go_ret
    exact ⟨by rw [HV.out]; rfl, hB4⟩
  | true =>
  have G3 := Lib.hid g3
  clear g3
  have lF4 := kB4.lt
  have lS4 := kD4.lt
  obtain ⟨f0, f1⟩ := frm_cells kB4
  obtain ⟨d0, d1, d2, d3, d4, d5⟩ := sto_cells kD4
  have HB4 := Lib.hid hB4
  have KB4 := Lib.hid kB4
  have KD4 := Lib.hid kD4
  clear kB4 kD4 hB4
  go_wp2_with fail
  refine (isBalanced_any F S.year S.la S.ga S.ha S.ua S.wa S.lc S.gc S.hc S.uc S.wc S.last.length S.given S.heaps S.used S.waste _ (HS.out.below HB4.out).given (HS.out.below HB4.out).heaps (HS.out.below HB4.out).used (HS.out.below HB4.out).waste
    hn (partsB_ok G2.out) HFI.out.used (partsB_ok G3.out) HFI.out.waste (fun h hh => heapB_parts (heapsB_heap G1.out h hh)) HFI.out.parts HFI.out.heaps).mono ?_
  rintro e w2 ⟨rfl, hb⟩
  have hB5 := HB4.out.trans (hb.mono HB4.out.size)
  have hv : mayB F.ps S = balB F.ps.length S.given S.used S.heaps S.waste := by rw [mayB, G0.out, G1.out, G2.out, G3.out]; rfl
  have HV := Lib.hid hv
  clear d0 d1 d2 d3 d4 d5 f0 f1 lF4 lS4 hb hv
  go_wp2_with fail
  go_ret
  exact ⟨by rw [HV.out]; rfl, hB5⟩

/-- What CheckStore returns. -/
def storeE (F : Frm) (S : Sto) : Int := if ¬ checkE F = 0 then checkE F else if mayB F.ps S = true then 0 else 8
theorem storeE_zero {F : Frm} {S : Sto} (h : storeE F S = 0) : checkE F = 0 ∧ mayB F.ps S = true := by
  unfold storeE at h
  split at h
  · next h1 => exact absurd h h1
  next h1 =>
    split at h
    · next h2 => exact ⟨Decidable.of_not_not h1, h2⟩
    · cases h

set_option maxRecDepth 100000 in
set_option maxHeartbeats 8000000 in
theorem checkStore_any (F : Frm) (S : Sto) (w : World) (hF : IsFarm w F) (hS : IsStore w S) (hfit : S.fit) :
    Calls Try.prog 15 #[.agg #[.slice F.pa F.ps.length F.pc, .int .i64 F.dry], stoV S] w fun e w' => e = .returned (.int .i64 (storeE F S)) ∧ Below w.heap.size w w' := by
  have HF := Lib.hid hF
  have HS := Lib.hid hS
  clear hF hS
  unfold stoV
  have kB := (Blk.new w 24 (frmC F)).alloc (.cells (stoC S) 45)
  have kD := Blk.new (w.alloc (.cells (frmC F) 24)) 45 (stoC S)
  have hB : Below w.heap.size w ((w.alloc (.cells (frmC F) 24)).alloc (.cells (stoC S) 45)) := ((Below.refl _ w).alloc (by simp) _).alloc (by simp) _
  simp only [World.size_alloc] at kD
  unfold frmC stoC at kB kD hB
  go_enter Try.func15, Try.ntmps15
  go_upto_region 1 with fail
  generalize ((w.alloc (.cells #[.slice F.pa F.ps.length F.pc, .int .i64 F.dry] 24)).alloc (.cells #[.int .i64 S.year, .slice S.la S.last.length S.lc, .slice S.ga S.given.length S.gc, .slice S.ha S.heaps.length S.hc, .slice S.ua S.used.length S.uc, .slice S.wa S.waste.length S.wc] 45)) = w1 at *
  have lF0 := kB.lt
  have lS0 := kD.lt
  obtain ⟨f0, f1⟩ := frm_cells kB
  obtain ⟨d0, d1, d2, d3, d4, d5⟩ := sto_cells kD
  have HB0 := Lib.hid hB
  have KB0 := Lib.hid kB
  have KD0 := Lib.hid kD
  clear kB kD hB
  go_wp2_with fail
  refine (check_any F _ (HF.out.below HB0.out)).mono ?_
  rintro e w2 ⟨rfl, hb⟩
  have hB1 := HB0.out.trans (hb.mono HB0.out.size)
  have kB1 := KB0.out.belowS hb
  have kD1 := KD0.out.belowS hb
  clear d0 d1 d2 d3 d4 d5 f0 f1 lF0 lS0 hb
  by_cases hE : checkE F = 0
  · obtain ⟨hn, _⟩ := checkE_ok hE
    have hv : storeE F S = if mayB F.ps S = true then 0 else 8 := by rw [storeE, if_neg (by rw [hE]; simp)]
    have HV := Lib.hid hv
    rw [hE]
    have z1 : ((0 : Int) == 0) = true := rfl
    clear hv hE
    have lF1 := kB1.lt
    have lS1 := kD1.lt
    obtain ⟨f0, f1⟩ := frm_cells kB1
    obtain ⟨d0, d1, d2, d3, d4, d5⟩ := sto_cells kD1
    have HB1 := Lib.hid hB1
    have KB1 := Lib.hid kB1
    have KD1 := Lib.hid kD1
    clear kB1 kD1 hB1
    go_wp2_with fail
    refine (mayBe_any F S _ (HF.out.below HB1.out) (HS.out.below HB1.out) hn hfit).mono ?_
    rintro e w3 ⟨rfl, hb⟩
    have hB2 := HB1.out.trans (hb.mono HB1.out.size)
    clear d0 d1 d2 d3 d4 d5 f0 f1 lF1 lS1 hb
    cases hm : mayB F.ps S with
    | true =>
      have hv2 : storeE F S = 0 := by rw [HV.out, if_pos hm]
      have HV2 := Lib.hid hv2
      clear hv2 hm
      go_wp2_with fail
      go_ret
      exact ⟨by rw [HV2.out]; rfl, hB2⟩
    | false =>
      have hv2 : storeE F S = 8 := by rw [HV.out, if_neg (by rw [hm]; simp)]
      have HV2 := Lib.hid hv2
      clear hv2 hm
      go_wp2_with fail
      go_ret
      exact ⟨by rw [HV2.out]; rfl, hB2⟩
  · have hv : storeE F S = checkE F := by rw [storeE, if_pos hE]
    have HV := Lib.hid hv
    clear hv
    generalize checkE F = E at *
    have z1 : (E == 0) = false := by simp [hE]
    have z2 : (E != 0) = true := by simp [hE]
    go_wp2_with fail
    go_ret
    exact ⟨by rw [HV.out]; rfl, hB1⟩
end
end Go.Proofs.Ytghepojnimlafaa
namespace Go.Proofs.Ytghepojnimlafaa
section
open Go.RowKit

theorem bel_alloc {w w' : World} (h : Below w.heap.size w w') (o : Obj) : Below w.heap.size w (w'.alloc o) := h.alloc h.size o
theorem bel_call {w w' w2 : World} (h : Below w.heap.size w w') (hb : Below w'.heap.size w' w2) : Below w.heap.size w w2 := h.trans (hb.mono h.size)
theorem bel_drew {w w' : World} (h : Below w.heap.size w w') : Below w.heap.size w w'.drew := h.drew
theorem blk2_0 (w : World) (t : TypeId) (cs : Array Value) (o1 : Obj) : Blk ((w.alloc (.cells cs t)).alloc o1).drew w.heap.size cs t := ((Blk.new w t cs).alloc o1).drew
theorem blk2_1 (w : World) (t : TypeId) (cs : Array Value) (o1 : Obj) : Blk ((w.alloc o1).alloc (.cells cs t)).drew (w.heap.size + 1) cs t := by
  have := (Blk.new (w.alloc o1) t cs).drew
  rwa [World.size_alloc] at this
/-- Two heaps, two stores that read alike, wherever their lists lie. -/
structure SameHep (g h : Hep) : Prop where
  name : g.name = h.name
  crop : g.crop = h.crop
  stage : g.stage = h.stage
  parts : g.parts = h.parts
  per : g.per = h.per
  wlo : g.wlo = h.wlo
  whi : g.whi = h.whi
structure SameSto (S T : Sto) : Prop where
  year : S.year = T.year
  last : S.last = T.last
  given : S.given = T.given
  used : S.used = T.used
  waste : S.waste = T.waste
  many : S.heaps.length = T.heaps.length
  heaps : ∀ (i : Nat) (g h : Hep), S.heaps[i]? = some g → T.heaps[i]? = some h → SameHep g h
end
end Go.Proofs.Ytghepojnimlafaa
namespace Go.Proofs.Ytghepojnimlafaa
section
open Go.RowKit

theorem own_keep {w w' : World} {base sz m n c : Nat} {t : TypeId} {a : Option Addr} {xs : List Value} (h : w.ownsRow base t sz (.slice a n c) m xs) (hk : ∀ k, a.map (·.block) = some k → w'.heap[k]? = w.heap[k]?) : w'.ownsRow base t sz (.slice a n c) m xs := by
  refine ⟨h.1, ?_⟩
  rcases h.2 with hn | ⟨g, cap, cur, e, hb, hg, rest⟩
  · exact .inl hn
  · obtain ⟨rfl, _, _⟩ := slice_inj e
    exact .inr ⟨g, cap, cur, e, hb, (hk g rfl).trans hg, rest⟩

/-- Rows one by one. -/
theorem rows_la {S : Sto} {k : Nat} (h : S.la.map (·.block) = some k) : k ∈ rowsOf S := List.mem_filterMap.2 ⟨S.la, by simp, h⟩
theorem rows_ga {S : Sto} {k : Nat} (h : S.ga.map (·.block) = some k) : k ∈ rowsOf S := List.mem_filterMap.2 ⟨S.ga, by simp, h⟩
theorem rows_ha {S : Sto} {k : Nat} (h : S.ha.map (·.block) = some k) : k ∈ rowsOf S := List.mem_filterMap.2 ⟨S.ha, by simp, h⟩
theorem rows_ua {S : Sto} {k : Nat} (h : S.ua.map (·.block) = some k) : k ∈ rowsOf S := List.mem_filterMap.2 ⟨S.ua, by simp, h⟩
theorem rows_wa {S : Sto} {k : Nat} (h : S.wa.map (·.block) = some k) : k ∈ rowsOf S := List.mem_filterMap.2 ⟨S.wa, by simp, h⟩
theorem rows_pa {S : Sto} {k : Nat} {x : Hep} (hx : x ∈ S.heaps) (h : x.pa.map (·.block) = some k) : k ∈ rowsOf S := List.mem_filterMap.2 ⟨x.pa, by simp only [List.mem_append, List.mem_map]; exact .inr ⟨x, hx, rfl⟩, h⟩

theorem OwnSto.keep {base : Nat} {w w' : World} {S : Sto} (h : OwnSto base w S) (hk : ∀ k ∈ rowsOf S, w'.heap[k]? = w.heap[k]?) : OwnSto base w' S :=
  ⟨own_keep h.last fun k e => hk k (rows_la e), own_keep h.given fun k e => hk k (rows_ga e), own_keep h.heaps fun k e => hk k (rows_ha e), fun x hx => own_keep (h.parts x hx) fun k e => hk k (rows_pa hx e),
    own_keep h.used fun k e => hk k (rows_ua e), own_keep h.waste fun k e => hk k (rows_wa e), h.names, h.apart⟩
theorem OwnSto.grown {base B : Nat} {w w' : World} {S : Sto} (h : OwnSto base w S) (hg : w.grownBy w' (some B)) (hB : B ∉ rowsOf S) : OwnSto base w' S :=
  h.keep fun k hk => hg.block k (h.ge k hk).2 (fun e => hB (by cases e; exact hk))
theorem OwnSto.mono {base base' : Nat} {w : World} {S : Sto} (h : OwnSto base w S) (hb : base' ≤ base) : OwnSto base' w S :=
  ⟨h.last.mono hb, h.given.mono hb, h.heaps.mono hb, fun x hx => (h.parts x hx).mono hb, h.used.mono hb, h.waste.mono hb, h.names, h.apart⟩

/-- Taking out of a list without doubles, putting into one. -/
theorem nodup_out {α : Type} {f : α → Option Nat} {l1 l2 : List α} {a : α} (h : ((l1 ++ a :: l2).filterMap f).Nodup) : ((l1 ++ l2).filterMap f).Nodup ∧ ∀ j, f a = some j → j ∉ (l1 ++ l2).filterMap f := by
  rw [List.filterMap_append, List.filterMap_cons] at h
  rw [List.filterMap_append]
  cases hf : f a with
  | none => rw [hf] at h; exact ⟨h, fun j e => by cases e⟩
  | some k =>
    rw [hf] at h
    simp only at h
    have hp := (List.perm_middle.nodup_iff).1 h
    exact ⟨(List.nodup_cons.1 hp).2, fun j e => by cases e; exact (List.nodup_cons.1 hp).1⟩
theorem nodup_put {α : Type} {f : α → Option Nat} {l1 l2 : List α} {a : α} (h : ((l1 ++ l2).filterMap f).Nodup) (hn : ∀ j, f a = some j → j ∉ (l1 ++ l2).filterMap f) : ((l1 ++ a :: l2).filterMap f).Nodup := by
  rw [List.filterMap_append, List.filterMap_cons]
  rw [List.filterMap_append] at h hn
  cases hf : f a with
  | none => exact h
  | some k => exact (List.perm_middle.nodup_iff).2 (List.nodup_cons.2 ⟨hn k hf, h⟩)

/-- The rows but one. -/
theorem apart_la {S : Sto} {a : Option Addr} (h : (rowsOf S).Nodup) (hn : ∀ j, a.map (·.block) = some j → j ∉ rowsOf { S with la := none }) : (rowsOf { S with la := a }).Nodup :=
  nodup_put (l1 := []) (nodup_out (l1 := []) h).1 (fun j e => by have := hn j e; simpa [rowsOf] using this)
theorem apart_ga {S : Sto} {a : Option Addr} (h : (rowsOf S).Nodup) (hn : ∀ j, a.map (·.block) = some j → j ∉ rowsOf { S with ga := none }) : (rowsOf { S with ga := a }).Nodup :=
  nodup_put (l1 := [S.la]) (nodup_out (l1 := [S.la]) h).1 (fun j e => by have := hn j e; simpa [rowsOf] using this)
theorem apart_ha {S : Sto} {a : Option Addr} (h : (rowsOf S).Nodup) (hn : ∀ j, a.map (·.block) = some j → j ∉ rowsOf { S with ha := none }) : (rowsOf { S with ha := a }).Nodup :=
  nodup_put (l1 := [S.la, S.ga]) (nodup_out (l1 := [S.la, S.ga]) h).1 (fun j e => by have := hn j e; simpa [rowsOf] using this)
theorem apart_ua {S : Sto} {a : Option Addr} (h : (rowsOf S).Nodup) (hn : ∀ j, a.map (·.block) = some j → j ∉ rowsOf { S with ua := none }) : (rowsOf { S with ua := a }).Nodup :=
  nodup_put (l1 := [S.la, S.ga, S.ha]) (nodup_out (l1 := [S.la, S.ga, S.ha]) h).1 (fun j e => by have := hn j e; simpa [rowsOf] using this)
theorem apart_wa {S : Sto} {a : Option Addr} (h : (rowsOf S).Nodup) (hn : ∀ j, a.map (·.block) = some j → j ∉ rowsOf { S with wa := none }) : (rowsOf { S with wa := a }).Nodup :=
  nodup_put (l1 := [S.la, S.ga, S.ha, S.ua]) (nodup_out (l1 := [S.la, S.ga, S.ha, S.ua]) h).1 (fun j e => by have := hn j e; simpa [rowsOf] using this)
theorem apart_pa {S : Sto} {i : Nat} {x y : Hep} (hx : S.heaps[i]? = some x) (h : (rowsOf S).Nodup) (hn : ∀ j, y.pa.map (·.block) = some j → j ∉ rowsOf { S with heaps := S.heaps.eraseIdx i }) : (rowsOf { S with heaps := S.heaps.set i y }).Nodup := by
  obtain ⟨hi, rfl⟩ := List.getElem?_eq_some_iff.1 hx
  have e1 : S.heaps.map (·.pa) = (S.heaps.take i).map (·.pa) ++ S.heaps[i].pa :: (S.heaps.drop (i + 1)).map (·.pa) := by
    rw [← List.map_cons (f := fun x : Hep => x.pa), ← List.map_append, List.getElem_cons_drop, List.take_append_drop]
  have e2 : (S.heaps.set i y).map (·.pa) = (S.heaps.take i).map (·.pa) ++ y.pa :: (S.heaps.drop (i + 1)).map (·.pa) := by
    rw [List.set_eq_take_append_cons_drop, if_pos hi]; simp
  have e3 : (S.heaps.eraseIdx i).map (·.pa) = (S.heaps.take i).map (·.pa) ++ (S.heaps.drop (i + 1)).map (·.pa) := by
    rw [List.eraseIdx_eq_take_drop_succ]; simp
  unfold rowsOf at h hn ⊢
  simp only [e1, e2, e3, ← List.append_assoc] at h hn ⊢
  exact nodup_put (nodup_out h).1 hn
theorem apart_erase {S : Sto} (i : Nat) (h : (rowsOf S).Nodup) : (rowsOf { S with heaps := S.heaps.eraseIdx i }).Nodup :=
  h.sublist (((List.Sublist.refl _).append ((List.eraseIdx_sublist S.heaps i).map _)).filterMap _)
theorem rows_erase {S : Sto} (i : Nat) : ∀ k ∈ rowsOf { S with heaps := S.heaps.eraseIdx i }, k ∈ rowsOf S := fun _ hk =>
  (((List.Sublist.refl _).append ((List.eraseIdx_sublist S.heaps i).map _)).filterMap _).subset hk
theorem out_pa {S : Sto} {i : Nat} {x : Hep} (hx : S.heaps[i]? = some x) (h : (rowsOf S).Nodup) : ∀ j, x.pa.map (·.block) = some j → j ∉ rowsOf { S with heaps := S.heaps.eraseIdx i } := by
  obtain ⟨hi, rfl⟩ := List.getElem?_eq_some_iff.1 hx
  have e1 : S.heaps.map (·.pa) = (S.heaps.take i).map (·.pa) ++ S.heaps[i].pa :: (S.heaps.drop (i + 1)).map (·.pa) := by
    rw [← List.map_cons (f := fun x : Hep => x.pa), ← List.map_append, List.getElem_cons_drop, List.take_append_drop]
  have e3 : (S.heaps.eraseIdx i).map (·.pa) = (S.heaps.take i).map (·.pa) ++ (S.heaps.drop (i + 1)).map (·.pa) := by
    rw [List.eraseIdx_eq_take_drop_succ]; simp
  unfold rowsOf at h ⊢
  simp only [e1, e3, ← List.append_assoc] at h ⊢
  exact (nodup_out h).2
theorem apart_push {S : Sto} {y : Hep} (h : (rowsOf S).Nodup) (hn : ∀ j, y.pa.map (·.block) = some j → j ∉ rowsOf S) : (rowsOf { S with heaps := S.heaps ++ [y] }).Nodup := by
  unfold rowsOf at h hn ⊢
  simp only [List.map_append, List.map_cons, List.map_nil, ← List.append_assoc]
  exact nodup_put (l2 := []) (by simpa using h) (by simpa using hn)
theorem out_ha {S : Sto} (h : (rowsOf S).Nodup) : ∀ j, S.ha.map (·.block) = some j → j ∉ rowsOf { S with ha := none } := fun j e => by
  have := (nodup_out (l1 := [S.la, S.ga]) h).2 j e
  simpa [rowsOf] using this
theorem out_ua {S : Sto} (h : (rowsOf S).Nodup) : ∀ j, S.ua.map (·.block) = some j → j ∉ rowsOf { S with ua := none } := fun j e => by
  have := (nodup_out (l1 := [S.la, S.ga, S.ha]) h).2 j e
  simpa [rowsOf] using this
theorem out_wa {S : Sto} (h : (rowsOf S).Nodup) : ∀ j, S.wa.map (·.block) = some j → j ∉ rowsOf { S with wa := none } := fun j e => by
  have := (nodup_out (l1 := [S.la, S.ga, S.ha, S.ua]) h).2 j e
  simpa [rowsOf] using this
theorem out_la {S : Sto} (h : (rowsOf S).Nodup) : ∀ j, S.la.map (·.block) = some j → j ∉ rowsOf { S with la := none } := fun j e => by
  have := (nodup_out (l1 := []) h).2 j e
  simpa [rowsOf] using this
theorem out_ga {S : Sto} (h : (rowsOf S).Nodup) : ∀ j, S.ga.map (·.block) = some j → j ∉ rowsOf { S with ga := none } := fun j e => by
  have := (nodup_out (l1 := [S.la]) h).2 j e
  simpa [rowsOf] using this

/-- A row in the place of another one. -/
theorem OwnSto.setUsed {base : Nat} {w w' : World} {S : Sto} {a : Option Addr} {c : Nat} {l : List Prt} (h : OwnSto base w S) (hk : ∀ k ∈ rowsOf { S with ua := none }, w'.heap[k]? = w.heap[k]?)
    (hn : w'.ownsRow base 80 2 (.slice a l.length c) l.length (l.flatMap cellsPrt)) (hj : ∀ j, a.map (·.block) = some j → j ∉ rowsOf { S with ua := none }) : OwnSto base w' { S with ua := a, uc := c, used := l } :=
  ⟨own_keep h.last fun k e => hk k (rows_la (S := { S with ua := none }) e), own_keep h.given fun k e => hk k (rows_ga (S := { S with ua := none }) e), own_keep h.heaps fun k e => hk k (rows_ha (S := { S with ua := none }) e),
    fun x hx => own_keep (h.parts x hx) fun k e => hk k (rows_pa (S := { S with ua := none }) hx e), hn, own_keep h.waste fun k e => hk k (rows_wa (S := { S with ua := none }) e), h.names, apart_ua h.apart hj⟩
theorem OwnSto.setWaste {base : Nat} {w w' : World} {S : Sto} {a : Option Addr} {c : Nat} {l : List Prt} (h : OwnSto base w S) (hk : ∀ k ∈ rowsOf { S with wa := none }, w'.heap[k]? = w.heap[k]?)
    (hn : w'.ownsRow base 80 2 (.slice a l.length c) l.length (l.flatMap cellsPrt)) (hj : ∀ j, a.map (·.block) = some j → j ∉ rowsOf { S with wa := none }) : OwnSto base w' { S with wa := a, wc := c, waste := l } :=
  ⟨own_keep h.last fun k e => hk k (rows_la (S := { S with wa := none }) e), own_keep h.given fun k e => hk k (rows_ga (S := { S with wa := none }) e), own_keep h.heaps fun k e => hk k (rows_ha (S := { S with wa := none }) e),
    fun x hx => own_keep (h.parts x hx) fun k e => hk k (rows_pa (S := { S with wa := none }) hx e), own_keep h.used fun k e => hk k (rows_ua (S := { S with wa := none }) e), hn, h.names, apart_wa h.apart hj⟩
theorem OwnSto.setLast {base : Nat} {w w' : World} {S : Sto} {a : Option Addr} {c : Nat} {l : List Int} (h : OwnSto base w S) (hk : ∀ k ∈ rowsOf { S with la := none }, w'.heap[k]? = w.heap[k]?)
    (hn : w'.ownsRow base 3 1 (.slice a l.length c) l.length (l.flatMap cellsI)) (hj : ∀ j, a.map (·.block) = some j → j ∉ rowsOf { S with la := none }) : OwnSto base w' { S with la := a, lc := c, last := l } :=
  ⟨hn, own_keep h.given fun k e => hk k (rows_ga (S := { S with la := none }) e), own_keep h.heaps fun k e => hk k (rows_ha (S := { S with la := none }) e),
    fun x hx => own_keep (h.parts x hx) fun k e => hk k (rows_pa (S := { S with la := none }) hx e), own_keep h.used fun k e => hk k (rows_ua (S := { S with la := none }) e), own_keep h.waste fun k e => hk k (rows_wa (S := { S with la := none }) e), h.names, apart_la h.apart hj⟩
theorem OwnSto.setGiven {base : Nat} {w w' : World} {S : Sto} {a : Option Addr} {c : Nat} {l : List Int} (h : OwnSto base w S) (hk : ∀ k ∈ rowsOf { S with ga := none }, w'.heap[k]? = w.heap[k]?)
    (hn : w'.ownsRow base 3 1 (.slice a l.length c) l.length (l.flatMap cellsI)) (hj : ∀ j, a.map (·.block) = some j → j ∉ rowsOf { S with ga := none }) : OwnSto base w' { S with ga := a, gc := c, given := l } :=
  ⟨own_keep h.last fun k e => hk k (rows_la (S := { S with ga := none }) e), hn, own_keep h.heaps fun k e => hk k (rows_ha (S := { S with ga := none }) e),
    fun x hx => own_keep (h.parts x hx) fun k e => hk k (rows_pa (S := { S with ga := none }) hx e), own_keep h.used fun k e => hk k (rows_ua (S := { S with ga := none }) e), own_keep h.waste fun k e => hk k (rows_wa (S := { S with ga := none }) e), h.names, apart_ga h.apart hj⟩
theorem OwnSto.setYear {base : Nat} {w : World} {S : Sto} (h : OwnSto base w S) (y : Int) : OwnSto base w { S with year := y } := ⟨h.last, h.given, h.heaps, h.parts, h.used, h.waste, h.names, h.apart⟩
/-- The heaps' row changed, their parts where they were, or one of them elsewhere, or gone, or new: all told by what the new heaps are. -/
theorem OwnSto.setHeaps {base : Nat} {w w' : World} {S : Sto} {a : Option Addr} {c : Nat} {H : List Hep} (h : OwnSto base w S) (hk : ∀ k ∈ rowsOf { S with ha := none, heaps := [] }, w'.heap[k]? = w.heap[k]?)
    (hn : w'.ownsRow base 77 7 (.slice a H.length c) H.length (H.flatMap cellsHep)) (hp : ∀ x ∈ H, w'.ownsRow base 80 2 (.slice x.pa x.parts.length x.pc) x.parts.length (x.parts.flatMap cellsPrt)) (hm : ∀ x ∈ H, x.name.size ≤ maxLen)
    (ha : (rowsOf { S with ha := a, heaps := H }).Nodup) : OwnSto base w' { S with ha := a, hc := c, heaps := H } :=
  ⟨own_keep h.last fun k e => hk k (rows_la (S := { S with ha := none, heaps := [] }) e), own_keep h.given fun k e => hk k (rows_ga (S := { S with ha := none, heaps := [] }) e), hn, hp,
    own_keep h.used fun k e => hk k (rows_ua (S := { S with ha := none, heaps := [] }) e), own_keep h.waste fun k e => hk k (rows_wa (S := { S with ha := none, heaps := [] }) e), hm, ha⟩
/-- Rows of a part of the store are rows of it. -/
theorem rows_noheaps {S : Sto} : ∀ k ∈ rowsOf { S with ha := none, heaps := [] }, k ∈ rowsOf { S with ha := none } := fun k hk => by
  simp only [rowsOf, List.map_nil, List.append_nil, List.mem_filterMap] at hk ⊢
  obtain ⟨a, ha, e⟩ := hk
  exact ⟨a, List.mem_append_left _ ha, e⟩
theorem rows_noha {S : Sto} : ∀ k ∈ rowsOf { S with ha := none }, k ∈ rowsOf S := fun k hk => by
  simp only [rowsOf, List.mem_filterMap, List.mem_append, List.mem_cons] at hk ⊢
  obtain ⟨a, ha, e⟩ := hk
  refine ⟨a, ?_, e⟩
  rcases ha with (h | h | h | h | h | h) | h
  · exact .inl (.inl h)
  · exact .inl (.inr (.inl h))
  · subst h; cases e
  · exact .inl (.inr (.inr (.inr (.inl h))))
  · exact .inl (.inr (.inr (.inr (.inr (.inl h)))))
  · exact .inl (.inr (.inr (.inr (.inr (.inr h)))))
  · exact .inr h
theorem rows_noua {S : Sto} : ∀ k ∈ rowsOf { S with ua := none }, k ∈ rowsOf S := fun k hk => by
  simp only [rowsOf, List.mem_filterMap, List.mem_append, List.mem_cons] at hk ⊢
  obtain ⟨a, ha, e⟩ := hk
  refine ⟨a, ?_, e⟩
  rcases ha with (h | h | h | h | h | h) | h
  · exact .inl (.inl h)
  · exact .inl (.inr (.inl h))
  · exact .inl (.inr (.inr (.inl h)))
  · subst h; cases e
  · exact .inl (.inr (.inr (.inr (.inr (.inl h)))))
  · exact .inl (.inr (.inr (.inr (.inr (.inr h)))))
  · exact .inr h
theorem rows_nowa {S : Sto} : ∀ k ∈ rowsOf { S with wa := none }, k ∈ rowsOf S := fun k hk => by
  simp only [rowsOf, List.mem_filterMap, List.mem_append, List.mem_cons] at hk ⊢
  obtain ⟨a, ha, e⟩ := hk
  refine ⟨a, ?_, e⟩
  rcases ha with (h | h | h | h | h | h) | h
  · exact .inl (.inl h)
  · exact .inl (.inr (.inl h))
  · exact .inl (.inr (.inr (.inl h)))
  · exact .inl (.inr (.inr (.inr (.inl h))))
  · subst h; cases e
  · exact .inl (.inr (.inr (.inr (.inr (.inr h)))))
  · exact .inr h
end
end Go.Proofs.Ytghepojnimlafaa
