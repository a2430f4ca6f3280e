/- isBalanced, mayBe, CheckStore: whether a store may be of a farm. -/
import Derived.Test.YtfhalmlpnoepcaaGreatGG
namespace Go.Proofs.YtfhalmlpnoepcaaGreat
open Go.RowKit

/-- What of a field is somewhere. -/
def thereM (used : List Prt) (heaps : List Hep) (waste : List Prt) (i : Nat) : Int := ofM i used + leftM i heaps + ofM i waste
def balB (n : Nat) (given : List Int) (used : List Prt) (heaps : List Hep) (waste : List Prt) : Bool :=
  decide (given.length = n) && ((List.range n).all (fun i => givenAt given i == thereM used heaps waste i) && decide (sumN (thereM used heaps waste) n ≤ 100000))
theorem there_bd {n : Nat} {used waste : List Prt} {heaps : List Hep} (huk : ∀ p ∈ used, p.ok n) (hul : used.length ≤ 1000) (hwk : ∀ p ∈ waste, p.ok n) (hwl : waste.length ≤ 1000) (hhk : ∀ h ∈ heaps, ∀ p ∈ h.parts, p.ok n) (hhp : ∀ h ∈ heaps, h.parts.length ≤ 1000) (hhl : heaps.length ≤ 1000) (i : Nat) :
    (0 ≤ ofM i used ∧ ofM i used ≤ 100000000) ∧ (0 ≤ leftM i heaps ∧ leftM i heaps ≤ 100000000000) ∧ (0 ≤ ofM i waste ∧ ofM i waste ≤ 100000000) := by
  have h1 := ofM_bd i huk
  have h2 := ofM_bd i hwk
  have h3 := leftM_bd i hhk hhp
  omega
theorem sumN_bd {f : Nat → Int} {m : Int} (n : Nat) (h : ∀ i, 0 ≤ f i ∧ f i ≤ m) : 0 ≤ sumN f n ∧ sumN f n ≤ m * n := by
  induction n with
  | zero => simp [sumN]
  | succ n ih =>
    have := h n
    simp only [sumN]
    push_cast
    rw [Int.mul_add]
    omega

set_option maxRecDepth 100000 in
set_option maxHeartbeats 8000000 in
theorem isBalanced_any (F : Frm) (year : Int) (la ga ha ua wa : Option Addr) (lc gc hc uc wc ll : Nat) (given : List Int) (heaps : List Hep) (used waste : List Prt) (w : World) (hG : IsNums w ga gc given) (hH : IsHeps w ha hc heaps) (hU : IsPrts w ua uc used) (hW : IsPrts w wa wc waste)
    (hn : F.ps.length ≤ 12) (huk : ∀ p ∈ used, p.ok F.ps.length) (hul : used.length ≤ 1000) (hwk : ∀ p ∈ waste, p.ok F.ps.length) (hwl : waste.length ≤ 1000) (hhk : ∀ h ∈ heaps, ∀ p ∈ h.parts, p.ok F.ps.length) (hhp : ∀ h ∈ heaps, h.parts.length ≤ 1000) (hhl : heaps.length ≤ 1000) :
    Calls Tryz.prog 59 #[.agg #[.slice F.pa F.ps.length F.pc, .int .i64 F.dry], .agg #[.int .i64 year, .slice la ll lc, .slice ga given.length gc, .slice ha heaps.length hc, .slice ua used.length uc, .slice wa waste.length wc]] w
      fun e w' => e = .returned (.bool (balB F.ps.length given used heaps waste)) ∧ Below w.heap.size w w' := by
  have hbd := there_bd huk hul hwk hwl hhk hhp hhl
  have hgl := hG.len
  have HBD := Lib.hid hbd
  have HG := Lib.hid hG
  have HH := Lib.hid hH
  have HU := Lib.hid hU
  have HW := Lib.hid hW
  have HUK := Lib.hid huk
  have HWK := Lib.hid hwk
  have HHK := Lib.hid hhk
  have HHP := Lib.hid hhp
  clear hG hH hU hW huk hwk hhk hhp hbd
  have kB := (Blk.new w 24 (frmC F)).alloc (.cells #[.int .i64 year, .slice la ll lc, .slice ga given.length gc, .slice ha heaps.length hc, .slice ua used.length uc, .slice wa waste.length wc] 29)
  have kD := Blk.new (w.alloc (.cells (frmC F) 24)) 29 #[.int .i64 year, .slice la ll lc, .slice ga given.length gc, .slice ha heaps.length hc, .slice ua used.length uc, .slice wa waste.length wc]
  have hB : Below w.heap.size w ((w.alloc (.cells (frmC F) 24)).alloc (.cells #[.int .i64 year, .slice la ll lc, .slice ga given.length gc, .slice ha heaps.length hc, .slice ua used.length uc, .slice wa waste.length wc] 29)) := ((Below.refl _ w).alloc (by simp) _).alloc (by simp) _
  simp only [World.size_alloc] at kD
  unfold frmC at kB kD hB
  go_enter Tryz.func59, Tryz.ntmps59
  go_upto_region 1 with fail
  generalize ((w.alloc (.cells #[.slice F.pa F.ps.length F.pc, .int .i64 F.dry] 24)).alloc (.cells #[.int .i64 year, .slice la ll lc, .slice ga given.length gc, .slice ha heaps.length hc, .slice ua used.length uc, .slice wa waste.length wc] 29)) = w1 at *
  have hltB := kB.lt
  have hltD := kD.lt
  obtain ⟨f0, f1⟩ := frm_cells kB
  have d0 := kD.cell 0
  have d1 := kD.cell 1
  have d2 := kD.cell 2
  have d3 := kD.cell 3
  have d4 := kD.cell 4
  have d5 := kD.cell 5
  simp only [List.getElem?_toArray, List.getElem?_cons_zero, List.getElem?_cons_succ] at d0 d1 d2 d3 d4 d5
  clear kB kD
  by_cases h1 : given.length = F.ps.length
  · have q1 : ((given.length : Int) == (F.ps.length : Int)) = true := by simp [h1]
    have q1' : ((given.length : Int) != (F.ps.length : Int)) = false := by simp [h1]
    have H1 := Lib.hid h1
    have hg12 : given.length ≤ 12 := by omega
    clear h1
    go_wp2_with fail
    refine (ledgerOf_any given.length year la ga ha ua wa lc gc hc uc wc ll given heaps used waste _ (HG.out.belowS hB) (HH.out.belowS hB) (HU.out.belowS hB) (HW.out.belowS hB) rfl hg12 (H1.out ▸ HUK.out) hul (H1.out ▸ HWK.out) hwl (H1.out ▸ HHK.out) HHP.out hhl).mono ?_
    rintro e w2 ⟨⟨K, rfl, kK⟩, hb2⟩
    have HB2 := Lib.hid (hB.trans (hb2.mono hB.size))
    clear d0 d1 d2 d3 d4 d5 f0 f1 hltB hltD hB hb2
    go_wp2_with fail
    go_loopw [19, 5, 7, 8] (fun i s _ _ wr => ∃ (j : Nat) (v : Int), j ≤ given.length ∧ i = .int .i64 j ∧ s = .int .i64 v ∧ v = sumN (thereM used heaps waste) j ∧ (∀ k, k < j → givenAt given k = thereM used heaps waste k) ∧ Below w2.heap.size w2 wr) (fun i _ _ _ _ => given.length - (intOf i).toNat)
    case atStart => exact ⟨0, 0, Nat.zero_le _, rfl, rfl, rfl, fun k h => by omega, Below.refl _ _⟩
    case round =>
      obtain ⟨j, v, hj, rfl, rfl, hv, hall, g2⟩ := hrel
      have HV := Lib.hid hv
      have HA := Lib.hid hall
      clear hall hv
      by_cases hlj : j < given.length
      · have kr := kK.belowS g2
        obtain ⟨⟨u0, u1⟩, ⟨l0, l1⟩, z0, z1⟩ := HBD.out j
        have hsb := sumN_bd (f := thereM used heaps waste) (m := 200000000000) j (fun i => by obtain ⟨⟨u0, u1⟩, ⟨l0, l1⟩, z0, z1⟩ := HBD.out i; unfold thereM; omega)
        rw [← HV.out] at hsb
        obtain ⟨s0, s1⟩ := hsb
        have c0 := (kr.cell (j * 4)).trans (rowI_at (by omega))
        have c1 := (kr.cell (j * 4 + 1)).trans (rowI_at (by omega))
        have c2 := (kr.cell (j * 4 + 2)).trans (rowI_at (by omega))
        have c3 := (kr.cell (j * 4 + 3)).trans (rowI_at (by omega))
        rw [cntF_0] at c0
        rw [cntF_1] at c1
        rw [cntF_2] at c2
        rw [cntF_3] at c3
        have hth : thereM used heaps waste j = ofM j used + leftM j heaps + ofM j waste := rfl
        generalize hu : ofM (j : Int) used = u at *
        generalize hl : leftM (j : Int) heaps = le at *
        generalize hz : ofM (j : Int) waste = z at *
        generalize hgg : givenAt given j = g at *
        have HTH := Lib.hid hth
        have HGG := Lib.hid hgg
        have lK := kr.lt
        have hj0 : (0 : Int) ≤ (j : Int) := Int.natCast_nonneg _
        have hj1 : (j : Int) < (given.length : Int) := by omega
        have s2 : v ≤ 200000000000 * 12 := by omega
        clear hu hl hz hth hgg kr
        have hb3 : Below wr.heap.size wr (wr.alloc (.cells #[.int .i64 g, .int .i64 u, .int .i64 le, .int .i64 z] 118)) := (Below.refl _ _).alloc (Nat.le_refl _) _
        by_cases he : g = u + le + z
        · have q2 : (g == u + le + z) = true := by simp [he]
          have q3 : (g != u + le + z) = false := by simp [he]
          have HE := Lib.hid he
          clear he
          go_wp2_with fail
          refine ⟨⟨j + 1, _, by omega, by simp, rfl, ?_, fun k hk => ?_, g2.trans (hb3.mono g2.size)⟩, by simp [intOf]; omega⟩
          · show _ = sumN _ j + thereM used heaps waste j
            rw [← HV.out, HTH.out]
          · by_cases hkj : k = j
            · subst hkj
              rw [HGG.out, HTH.out]
              exact HE.out
            · exact HA.out k (by omega)
        · have q2 : (g == u + le + z) = false := by simp [he]
          have q3 : (g != u + le + z) = true := by simp [he]
          have hvv : balB F.ps.length given used heaps waste = false := by
            have : ((List.range F.ps.length).all fun i => givenAt given i == thereM used heaps waste i) = false := by
              rw [Bool.eq_false_iff]
              intro k
              have := List.all_eq_true.1 k j (by rw [← H1.out]; simpa using hlj)
              rw [HGG.out, HTH.out, q2] at this
              cases this
            rw [balB, this]
            simp
          have HVV := Lib.hid hvv
          clear he hvv
          go_wp2_with fail
          go_ret
          exact ⟨by rw [HVV.out]; rfl, HB2.out.trans ((g2.trans (hb3.mono g2.size)).mono HB2.out.size)⟩
      · obtain rfl : j = given.length := by omega
        have hvv : balB F.ps.length given used heaps waste = decide (v ≤ 100000) := by
          have : ((List.range F.ps.length).all fun i => givenAt given i == thereM used heaps waste i) = true := List.all_eq_true.2 fun i hi => by
            rw [HA.out i (by rw [H1.out]; simpa using hi)]
            simp
          rw [balB, this, HV.out, H1.out]
          simp
        have HVV := Lib.hid hvv
        clear hvv
        go_wp2_with fail
        go_ret
        exact ⟨by rw [HVV.out]; rfl, HB2.out.trans (g2.mono HB2.out.size)⟩
  · have q1 : ((given.length : Int) == (F.ps.length : Int)) = false := by simp; exact fun e => h1 (by omega)
    have q1' : ((given.length : Int) != (F.ps.length : Int)) = true := by simp; exact fun e => h1 (by omega)
    have hv : balB F.ps.length given used heaps waste = false := by simp [balB, h1]
    have HV := Lib.hid hv
    clear hv h1
    go_wp2_with fail
    go_ret
    exact ⟨by rw [HV.out]; rfl, hB⟩

structure Sto.fit (S : Sto) : Prop where
  used : S.used.length ≤ 1000
  waste : S.waste.length ≤ 1000
  heaps : S.heaps.length ≤ 1000
  parts : ∀ h ∈ S.heaps, h.parts.length ≤ 1000
def mayB (ps : List Plt) (S : Sto) : Bool := yearsB ps.length S.year S.last && (heapsB ps S.heaps && (partsB ps.length S.used && (partsB ps.length S.waste && balB ps.length S.given S.used S.heaps S.waste)))
theorem heapsB_heap {ps : List Plt} {l : List Hep} (k : heapsB ps l = true) : ∀ h ∈ l, heapB ps h = true := by
  simp only [heapsB, Bool.and_eq_true] at k
  intro h hh
  obtain ⟨i, hi, rfl⟩ := List.getElem_of_mem hh
  have := List.all_eq_true.1 k.2 i (by simpa using hi)
  rw [heapAt, List.getElem?_eq_getElem hi] at this
  simp only [Bool.and_eq_true] at this
  exact this.2

set_option maxRecDepth 100000 in
set_option maxHeartbeats 8000000 in
theorem mayBe_any (F : Frm) (S : Sto) (w : World) (hF : IsFarm w F) (hS : IsStore w S) (hn : F.ps.length ≤ 12) (hfit : S.fit) :
    Calls Tryz.prog 30 #[.agg #[.slice F.pa F.ps.length F.pc, .int .i64 F.dry], stoV S] w fun e w' => e = .returned (.bool (mayB F.ps S)) ∧ Below w.heap.size w w' := by
  have HF := Lib.hid hF
  have HS := Lib.hid hS
  have HFI := Lib.hid hfit
  clear hF hS hfit
  unfold stoV
  have kB := (Blk.new w 24 (frmC F)).alloc (.cells (stoC S) 29)
  have kD := Blk.new (w.alloc (.cells (frmC F) 24)) 29 (stoC S)
  have hB : Below w.heap.size w ((w.alloc (.cells (frmC F) 24)).alloc (.cells (stoC S) 29)) := ((Below.refl _ w).alloc (by simp) _).alloc (by simp) _
  simp only [World.size_alloc] at kD
  unfold frmC stoC at kB kD hB
  go_enter Tryz.func30, Tryz.ntmps30
  go_upto_region 1 with fail
  generalize ((w.alloc (.cells #[.slice F.pa F.ps.length F.pc, .int .i64 F.dry] 24)).alloc (.cells #[.int .i64 S.year, .slice S.la S.last.length S.lc, .slice S.ga S.given.length S.gc, .slice S.ha S.heaps.length S.hc, .slice S.ua S.used.length S.uc, .slice S.wa S.waste.length S.wc] 29)) = w1 at *
  have lF0 := kB.lt
  have lS0 := kD.lt
  obtain ⟨f0, f1⟩ := frm_cells kB
  obtain ⟨d0, d1, d2, d3, d4, d5⟩ := sto_cells kD
  have HB0 := Lib.hid hB
  have KB0 := Lib.hid kB
  have KD0 := Lib.hid kD
  clear kB kD hB
  go_wp2_with fail
  refine (areYears_any F S _ (HF.out.below HB0.out) (HS.out.below HB0.out).last).mono ?_
  rintro e w2 ⟨rfl, hb⟩
  have hB1 := HB0.out.trans (hb.mono HB0.out.size)
  have kB1 := KB0.out.belowS hb
  have kD1 := KD0.out.belowS hb
  obtain ⟨w3, rfl⟩ : ∃ w3 : World, w3 = w2 := ⟨_, rfl⟩
  clear d0 d1 d2 d3 d4 d5 f0 f1 lF0 lS0 hb
  cases g0 : yearsB F.ps.length S.year S.last with
  | false =>
    have hv : mayB F.ps S = false := by simp [mayB, g0]
    have HV := Lib.hid hv
    clear hv g0
    go_wp2_with fail
    go_ret
    exact ⟨by rw [HV.out]; rfl, hB1⟩
  | true =>
  have G0 := Lib.hid g0
  clear g0
  have lF1 := kB1.lt
  have lS1 := kD1.lt
  obtain ⟨f0, f1⟩ := frm_cells kB1
  obtain ⟨d0, d1, d2, d3, d4, d5⟩ := sto_cells kD1
  have HB1 := Lib.hid hB1
  have KB1 := Lib.hid kB1
  have KD1 := Lib.hid kD1
  clear kB1 kD1 hB1
  go_wp2_with fail
  refine (areHeaps_any F S.ha S.hc S.heaps _ (HF.out.below HB1.out) (HS.out.below HB1.out).heaps hn HFI.out.parts).mono ?_
  rintro e w2 ⟨rfl, hb⟩
  have hB2 := HB1.out.trans (hb.mono HB1.out.size)
  have kB2 := KB1.out.belowS hb
  have kD2 := KD1.out.belowS hb
  obtain ⟨w3, rfl⟩ : ∃ w3 : World, w3 = w2 := ⟨_, rfl⟩
  clear d0 d1 d2 d3 d4 d5 f0 f1 lF1 lS1 hb
  cases g1 : heapsB F.ps S.heaps with
  | false =>
    have hv : mayB F.ps S = false := by simp [mayB, g1]
    have HV := Lib.hid hv
    clear hv g1
    go_wp2_with fail
    go_ret
    exact ⟨by rw [HV.out]; rfl, hB2⟩
  | true =>
  have G1 := Lib.hid g1
  clear g1
  have lF2 := kB2.lt
  have lS2 := kD2.lt
  obtain ⟨f0, f1⟩ := frm_cells kB2
  obtain ⟨d0, d1, d2, d3, d4, d5⟩ := sto_cells kD2
  have HB2 := Lib.hid hB2
  have KB2 := Lib.hid kB2
  have KD2 := Lib.hid kD2
  clear kB2 kD2 hB2
  go_wp2_with fail
  refine (areParts_any F S.ua S.uc S.used _ hn (HS.out.below HB2.out).used).mono ?_
  rintro e w2 ⟨rfl, hb⟩
  have hB3 := HB2.out.trans (hb.mono HB2.out.size)
  have kB3 := KB2.out.belowS hb
  have kD3 := KD2.out.belowS hb
  obtain ⟨w3, rfl⟩ : ∃ w3 : World, w3 = w2 := ⟨_, rfl⟩
  clear d0 d1 d2 d3 d4 d5 f0 f1 lF2 lS2 hb
  cases g2 : partsB F.ps.length S.used with
  | false =>
    have hv : mayB F.ps S = false := by simp [mayB, g2]
    have HV := Lib.hid hv
    clear hv g2
    go_wp2_with fail
    go_ret
    exact ⟨by rw [HV.out]; rfl, hB3⟩
  | true =>
  have G2 := Lib.hid g2
  clear g2
  have lF3 := kB3.lt
  have lS3 := kD3.lt
  obtain ⟨f0, f1⟩ := frm_cells kB3
  obtain ⟨d0, d1, d2, d3, d4, d5⟩ := sto_cells kD3
  have HB3 := Lib.hid hB3
  have KB3 := Lib.hid kB3
  have KD3 := Lib.hid kD3
  clear kB3 kD3 hB3
  go_wp2_with fail
  refine (areParts_any F S.wa S.wc S.waste _ hn (HS.out.below HB3.out).waste).mono ?_
  rintro e w2 ⟨rfl, hb⟩
  have hB4 := HB3.out.trans (hb.mono HB3.out.size)
  have kB4 := KB3.out.belowS hb
  have kD4 := KD3.out.belowS hb
  obtain ⟨w3, rfl⟩ : ∃ w3 : World, w3 = w2 := ⟨_, rfl⟩
  clear d0 d1 d2 d3 d4 d5 f0 f1 lF3 lS3 hb
  cases g3 : partsB F.ps.length S.waste with
  | false =>
    have hv : mayB F.ps S = false := by simp [mayB, g3]
    have HV := Lib.hid hv
    clear hv g3
    go_wp2_with fail
    go_ret
    exact ⟨by rw [HV.out]; rfl, hB4⟩
  | true =>
  have G3 := Lib.hid g3
  clear g3
  have lF4 := kB4.lt
  have lS4 := kD4.lt
  obtain ⟨f0, f1⟩ := frm_cells kB4
  obtain ⟨d0, d1, d2, d3, d4, d5⟩ := sto_cells kD4
  have HB4 := Lib.hid hB4
  have KB4 := Lib.hid kB4
  have KD4 := Lib.hid kD4
  clear kB4 kD4 hB4
  go_wp2_with fail
  refine (isBalanced_any F S.year S.la S.ga S.ha S.ua S.wa S.lc S.gc S.hc S.uc S.wc S.last.length S.given S.heaps S.used S.waste _ (HS.out.below HB4.out).given (HS.out.below HB4.out).heaps (HS.out.below HB4.out).used (HS.out.below HB4.out).waste
    hn (partsB_ok G2.out) HFI.out.used (partsB_ok G3.out) HFI.out.waste (fun h hh => heapB_parts (heapsB_heap G1.out h hh)) HFI.out.parts HFI.out.heaps).mono ?_
  rintro e w2 ⟨rfl, hb⟩
  have hB5 := HB4.out.trans (hb.mono HB4.out.size)
  have hv : mayB F.ps S = balB F.ps.length S.given S.used S.heaps S.waste := by rw [mayB, G0.out, G1.out, G2.out, G3.out]; rfl
  have HV := Lib.hid hv
  clear d0 d1 d2 d3 d4 d5 f0 f1 lF4 lS4 hb hv
  go_wp2_with fail
  go_ret
  exact ⟨by rw [HV.out]; rfl, hB5⟩

/-- What CheckStore returns. -/
def storeE (F : Frm) (S : Sto) : Int := if ¬ checkE F = 0 then checkE F else if mayB F.ps S = true then 0 else 8
theorem storeE_zero {F : Frm} {S : Sto} (h : storeE F S = 0) : checkE F = 0 ∧ mayB F.ps S = true := by
  unfold storeE at h
  split at h
  · next h1 => exact absurd h h1
  next h1 =>
    split at h
    · next h2 => exact ⟨Decidable.of_not_not h1, h2⟩
    · cases h

set_option maxRecDepth 100000 in
set_option maxHeartbeats 8000000 in
theorem checkStore_any (F : Frm) (S : Sto) (w : World) (hF : IsFarm w F) (hS : IsStore w S) (hfit : S.fit) :
    Calls Tryz.prog 16 #[.agg #[.slice F.pa F.ps.length F.pc, .int .i64 F.dry], stoV S] w fun e w' => e = .returned (.int .i64 (storeE F S)) ∧ Below w.heap.size w w' := by
  have HF := Lib.hid hF
  have HS := Lib.hid hS
  clear hF hS
  unfold stoV
  have kB := (Blk.new w 24 (frmC F)).alloc (.cells (stoC S) 29)
  have kD := Blk.new (w.alloc (.cells (frmC F) 24)) 29 (stoC S)
  have hB : Below w.heap.size w ((w.alloc (.cells (frmC F) 24)).alloc (.cells (stoC S) 29)) := ((Below.refl _ w).alloc (by simp) _).alloc (by simp) _
  simp only [World.size_alloc] at kD
  unfold frmC stoC at kB kD hB
  go_enter Tryz.func16, Tryz.ntmps16
  go_upto_region 1 with fail
  generalize ((w.alloc (.cells #[.slice F.pa F.ps.length F.pc, .int .i64 F.dry] 24)).alloc (.cells #[.int .i64 S.year, .slice S.la S.last.length S.lc, .slice S.ga S.given.length S.gc, .slice S.ha S.heaps.length S.hc, .slice S.ua S.used.length S.uc, .slice S.wa S.waste.length S.wc] 29)) = w1 at *
  have lF0 := kB.lt
  have lS0 := kD.lt
  obtain ⟨f0, f1⟩ := frm_cells kB
  obtain ⟨d0, d1, d2, d3, d4, d5⟩ := sto_cells kD
  have HB0 := Lib.hid hB
  have KB0 := Lib.hid kB
  have KD0 := Lib.hid kD
  clear kB kD hB
  go_wp2_with fail
  refine (check_any F _ (HF.out.below HB0.out)).mono ?_
  rintro e w2 ⟨rfl, hb⟩
  have hB1 := HB0.out.trans (hb.mono HB0.out.size)
  have kB1 := KB0.out.belowS hb
  have kD1 := KD0.out.belowS hb
  clear d0 d1 d2 d3 d4 d5 f0 f1 lF0 lS0 hb
  by_cases hE : checkE F = 0
  · obtain ⟨hn, _⟩ := checkE_ok hE
    have hv : storeE F S = if mayB F.ps S = true then 0 else 8 := by rw [storeE, if_neg (by rw [hE]; simp)]
    have HV := Lib.hid hv
    rw [hE]
    have z1 : ((0 : Int) == 0) = true := rfl
    clear hv hE
    have lF1 := kB1.lt
    have lS1 := kD1.lt
    obtain ⟨f0, f1⟩ := frm_cells kB1
    obtain ⟨d0, d1, d2, d3, d4, d5⟩ := sto_cells kD1
    have HB1 := Lib.hid hB1
    have KB1 := Lib.hid kB1
    have KD1 := Lib.hid kD1
    clear kB1 kD1 hB1
    go_wp2_with fail
    refine (mayBe_any F S _ (HF.out.below HB1.out) (HS.out.below HB1.out) hn hfit).mono ?_
    rintro e w3 ⟨rfl, hb⟩
    have hB2 := HB1.out.trans (hb.mono HB1.out.size)
    clear d0 d1 d2 d3 d4 d5 f0 f1 lF1 lS1 hb
    cases hm : mayB F.ps S with
    | true =>
      have hv2 : storeE F S = 0 := by rw [HV.out, if_pos hm]
      have HV2 := Lib.hid hv2
      clear hv2 hm
      go_wp2_with fail
      go_ret
      exact ⟨by rw [HV2.out]; rfl, hB2⟩
    | false =>
      have hv2 : storeE F S = 8 := by rw [HV.out, if_neg (by rw [hm]; simp)]
      have HV2 := Lib.hid hv2
      clear hv2 hm
      go_wp2_with fail
      go_ret
      exact ⟨by rw [HV2.out]; rfl, hB2⟩
  · have hv : storeE F S = checkE F := by rw [storeE, if_pos hE]
    have HV := Lib.hid hv
    clear hv
    generalize checkE F = E at *
    have z1 : (E == 0) = false := by simp [hE]
    have z2 : (E != 0) = true := by simp [hE]
    go_wp2_with fail
    go_ret
    exact ⟨by rw [HV.out]; rfl, hB1⟩
end Go.Proofs.YtfhalmlpnoepcaaGreat
